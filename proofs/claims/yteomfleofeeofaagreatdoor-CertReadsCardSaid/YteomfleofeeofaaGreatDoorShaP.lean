/- sha.start at words of 32 bits. -/
import Derived.Test.YteomfleofeeofaaGreatDoorShaB
namespace Go.Proofs.YteomfleofeeofaaGreatDoor
open Go.Lib (hid)
open _root_.List (take_succ_cons drop_succ_cons)
set_option maxHeartbeats 16000000
open Go.Proofs.Tryz
set_option maxRecDepth 100000
set_option linter.unusedSimpArgs false
set_option linter.unusedVariables false
section
open Go.RowKit Go.Sort
def TabH(w:World)(H:Nat→Int):Prop:=∀ t,t<8→w.cell? ⟨1,t,none⟩=some (.int .u64 (H t))
theorem TabH.lt{w:World}{H:Nat→Int}(h:TabH w H):1 < w.heap.size:=jbc (h 0 (by omega))
theorem TabH.below{w w':World}{H:Nat→Int}{B:Nat}(h:TabH w H)(hb:Below B w w')(hB:1 < B):TabH w' H:=fun t ht=>(hb.cell hB).trans (h t ht)
def ofFn(f:Nat→Int):W8:=⟨f 0,f 1,f 2,f 3,f 4,f 5,f 6,f 7⟩
def beg32(H:Nat→Int)(k:Nat):W8:=ofFn fun j=>if j<k then H j/4294967296%4294967296 else 0
theorem beg32_set(H:Nat→Int)(k:Nat)(h:k<8)(r:ByteArray)(l:Int):(rc32 [] [] (beg32 H k) r l).setIfInBounds k (.int .u32 (H k/4294967296%4294967296))=rc32 [] [] (beg32 H (k+1)) r l:=by
 rcases lt8 h with rfl|rfl|rfl|rfl|rfl|rfl|rfl|rfl<;>rfl
def qbH(H:Nat→Int):W8:=ofFn fun j=>H j/4294967296%4294967296
theorem beg32_eight(H:Nat→Int):beg32 H 8=qbH H:=rfl
theorem info10_32:(Tryz.prog.info? 144).map (fun i=>(i.zero,i.size))=some (some (.agg (rc32 [] [] (ofFn fun _=>0) ⟨#[]⟩ 0)),10):=by kernel_rfl
theorem start32_any(H:Nat→Int)(w:World)(hH:TabH w H):Rt 152 #[qcB] w (.agg (rc32 [] [] (qbH H) ⟨#[]⟩ 0)):=by
 unfold Rt;have HZ:=hid (jzi info10_32);have hz:=HZ.out.1;go_enter func152,ntmps152;go_wp2_with fail;have hP:PrmAt (((w.alloc (.cells #[.int .i64 64,.int .i64 64,.int .u64 7,.int .u64 18,.int .u64 3,.int .u64 17,.int .u64 19,.int .u64 10,.int .u64 6,.int .u64 11,.int .u64 25,.int .u64 2,.int .u64 13,.int .u64 22] 95)).alloc (.cells (rc32 [] [] (ofFn fun _=>0) ⟨#[]⟩ 0) 144)).alloc (.cells (rc32 [] [] (ofFn fun _=>0) ⟨#[]⟩ 0) 144)) w.heap.size:=qah (qah (qad w _));have hR:=qah (o:=(.cells (rc32 [] [] (ofFn fun _=>0) ⟨#[]⟩ 0) 144)) (qaz w (.cells #[.int .i64 64,.int .i64 64,.int .u64 7,.int .u64 18,.int .u64 3,.int .u64 17,.int .u64 19,.int .u64 10,.int .u64 6,.int .u64 11,.int .u64 25,.int .u64 2,.int .u64 13,.int .u64 22] 95) (.cells (rc32 [] [] (ofFn fun _=>0) ⟨#[]⟩ 0) 144));have hA:=qby w (.cells #[.int .i64 64,.int .i64 64,.int .u64 7,.int .u64 18,.int .u64 3,.int .u64 17,.int .u64 19,.int .u64 10,.int .u64 6,.int .u64 11,.int .u64 25,.int .u64 2,.int .u64 13,.int .u64 22] 95) (.cells (rc32 [] [] (ofFn fun _=>0) ⟨#[]⟩ 0) 144) (.cells (rc32 [] [] (ofFn fun _=>0) ⟨#[]⟩ 0) 144)
 have hB:=qbd w (.cells #[.int .i64 64,.int .i64 64,.int .u64 7,.int .u64 18,.int .u64 3,.int .u64 17,.int .u64 19,.int .u64 10,.int .u64 6,.int .u64 11,.int .u64 25,.int .u64 2,.int .u64 13,.int .u64 22] 95) (.cells (rc32 [] [] (ofFn fun _=>0) ⟨#[]⟩ 0) 144) (.cells (rc32 [] [] (ofFn fun _=>0) ⟨#[]⟩ 0) 144);have hT:=hH.below hB hH.lt;have hlow:=hH.lt;generalize (((w.alloc _).alloc _).alloc _)=W at *;generalize z7:w.heap.size=B at *;have za:=hid z7;have HP:=hid hP;have HR:=hid hR;have HA:=hid hA;clear z7 hP hR hA hH hz
 go_loopw [5] (fun i wr=>∃ k:Nat,k≤8∧i=.int .i64 k∧PrmAt wr B∧wr.heap[B+1]?=some (.cells (rc32 [] [] (ofFn fun _=>0) ⟨#[]⟩ 0) 144)∧wr.heap[B+1+1]?=some (.cells (rc32 [] [] (beg32 H k) ⟨#[]⟩ 0) 144)∧TabH wr H∧Below B w wr) (fun i _=>8-(intOf i).toNat)
 case atStart=>exact⟨0,by omega,rfl,HP.out,HR.out,HA.out,hT,hB⟩
 case round=>
  clear HP HR HA hT hB;obtain⟨k,hk,rfl,hp,hr,ha,ht,hb⟩:=hrel;have HP:=hid hp;have HR:=hid hr;have HA:=hid ha;clear hp hr ha;by_cases z2:k<8
  ·have hd:decide ((k:Int)<8)=true:=by simp;omega
   go_wp2_with fail;obtain⟨c0,c1,c2,c3,c4,c5,c6,c7,c8,c9,z3,z4,z5,z6⟩:=HP.out.cells;have k0:=jcr c0;have k1:=jcr c1;have k2:=jcr c2;have k3:=jcr c3;have k4:=jcr c4;have k5:=jcr c5;have k6:=jcr c6;have k7:=jcr c7;have k8:=jcr c8;have k9:=jcr c9;have ze:=jcr z3;have zf:=jcr z4;have zg:=jcr z5;have zh:=jcr z6;have kh:=jcr (ht k z2);refine qak 10 (by kernel_rfl) (by kernel_rfl) ?_;simp only[zks]
   repeat (first|go_big_quiet_step ((go_at_call 194;exact Calls.regrown_of (unused256 _)))|quiet_step ((go_at_call 194;exact Calls.regrown_of (unused256 _))))
   refine jqn ?_;intro W1 z0;clear k0 k1 k2 k3 k4 k5 k6 k7 k8 k9 ze zf zg zh c0 c1 c2 c3 c4 c5 c6 c7 c8 c9 z3 z4 z5 z6 kh;have z1:=hkq HA z0;have z9:=hkq HR z0;have z8:=HP.out.below z0 (qac HP.out);have zc:=ht.below z0 ht.lt;have zb:Below B w W1:=hb.trans (z0.mono (jll (qac HP.out)));have ck:∃ y,W1.cell? ⟨B+1+1,k,none⟩=some (.int .u32 y):=by
    have:=qgN [] [] (beg32 H k) ⟨#[]⟩ 0 k z2;exact⟨_,by rw[jco W1 _ _ _ _ _ z1];simpa using this⟩
   obtain⟨y,ck⟩:=ck;have fk:W1.frozen? ⟨B+1+1,k,none⟩=false:=jfr W1 _ _ _ _ z1;replace HA:=hid z1;replace HP:=hid z8;replace HR:=hid z9;clear z1 z8 z9 ht hb z0;go_wp2_with fail;go_roundw
   case rel=>
    refine⟨k+1,by omega,by go_num,?_,?_,?_,?_,zb.setCell (by simp;omega) _⟩
    ·exact (jso _ _ _ _ (by simp;omega)).trans HP.out
    ·exact (jso _ _ _ _ (by simp)).trans HR.out
    ·rw[← beg32_set _ _ z2];exact heap_setCell_same _ _ _ _ _ _ HA.out
    ·exact fun t zd=>(World.cell?_setCell_far _ _ _ _ (by first|(simp;done)|(simp;omega))).trans (zc t zd)
   case measure=>simp[intOf];omega
  ·have hd:decide ((k:Int)<8)=false:=by simp;omega
   obtain rfl:k=8:=by omega
   rw[beg32_eight]at HA;have HI:=hid (show (Tryz.prog.info? 144).map (·.size)=some (rc32 [] [] (qbH H) ⟨#[]⟩ 0).size from HZ.out.2);have HO:=hid (show (rc32 [] [] (ofFn fun _=>0) ⟨#[]⟩ 0).size=(rc32 [] [] (qbH H) ⟨#[]⟩ 0).size from rfl);have H1:=hid (show (rc32 [] [] (qbH H) ⟨#[]⟩ 0).all (·.oneCell')=true from by simp[rc32,Value.oneCell']);go_wp2_with (first
    | (with_reducible refine jlw rfl 144 _ rfl (B+1+1) rfl 144 _ (0,0) _ HA.out underlying144 rfl HI.out ?_)
    | (with_reducible refine jsr rfl 144 _ _ rfl (B+1) (rc32 [] [] (qbH H) ⟨#[]⟩ 0) rfl rfl 144 _ HR.out HI.out HO.out H1.out ?_))
   exact jpr (v:=.agg (rc32 [] [] (qbH H) ⟨#[]⟩ 0)) (jrc (by rfl) _ _ (B+1) 144 _ (0,0) _ rfl (jsh _ _ _ _ _ _ HR.out) underlying144 rfl HI.out) rfl ⟨rfl,by rw[za.out];exact jbr hb (by omega) _⟩
def padL(z0 lb n:Nat):List UInt8:=128 :: (List.replicate ((2*z0-(n%z0+1+lb))%z0) 0++be lb (n*8))
theorem pad_set(q:Nat)(l:List UInt8)(v:UInt8):(128 :: (List.replicate (q+1) 0++l)).set (q+1) v=128 :: (List.replicate q 0++v :: l):=by
 rw[List.set_cons_succ,List.replicate_succ',List.append_assoc,List.set_append,if_neg (by simp)];simp
theorem pad_pow(n j:Nat)(hn:n≤1099511627776)(h:0<n*8/256^j):j<8:=by
 rcases Nat.lt_or_ge j 8 with h'|h'
 ·exact h'
 ·have h1:256^8≤256^j:=Nat.pow_le_pow_right (by omega) h';have h2:n*8/256^j=0:=Nat.div_eq_of_lt (jl3 (by omega:n*8<256^8) h1);omega
theorem padding256_any(n:Nat)(w:World)(hn:n≤1099511627776):Rt 196 #[qcB,.int .u64 (n:Int)] w (.string ⟨(padL 64 8 n).toArray⟩):=by
 unfold Rt;have hP:PrmAt (w.alloc (.cells #[.int .i64 64,.int .i64 64,.int .u64 7,.int .u64 18,.int .u64 3,.int .u64 17,.int .u64 19,.int .u64 10,.int .u64 6,.int .u64 11,.int .u64 25,.int .u64 2,.int .u64 13,.int .u64 22] 95)) w.heap.size:=qad w _;have hB:=qaf w (.cells #[.int .i64 64,.int .i64 64,.int .u64 7,.int .u64 18,.int .u64 3,.int .u64 17,.int .u64 19,.int .u64 10,.int .u64 6,.int .u64 11,.int .u64 25,.int .u64 2,.int .u64 13,.int .u64 22] 95);go_enter func196,ntmps196;go_wp2_with fail;generalize (w.alloc _)=W at *;generalize zd:w.heap.size=B at *;have zj:=hid zd;have HP:=hid hP;clear zd hP
 ·obtain⟨c0,c1,c2,c3,c4,c5,c6,c7,c8,c9,z3,z4,z5,z6⟩:=HP.out.cells;have k0:=jcr c0;have k1:=jcr c1;have k2:=jcr c2;have k3:=jcr c3;have k4:=jcr c4;have k5:=jcr c5;have k6:=jcr c6;have k7:=jcr c7;have k8:=jcr c8;have k9:=jcr c9;have zt:=jcr z3;have zu:=jcr z4;have zv:=jcr z5;have zw:=jcr z6;have zq:(0:Int)≤(n:Int)%64:=by omega
  have zr:(n:Int)%64<64:=by omega
  refine qav (by kernel_rfl) (by kernel_rfl) ?_
  repeat (first|go_big_quiet_step ((go_at_call 221;exact Calls.regrown_of (qe1 _)))|quiet_step ((go_at_call 221;exact Calls.regrown_of (qe1 _))))
  refine jqn ?_;intro W1 z7;have za:Below B w W1:=hB.trans (z7.mono (jll (qac HP.out)));replace HP:=hid (HP.out.below z7 (qac HP.out));clear k0 k1 k2 k3 k4 k5 k6 k7 k8 k9 zt zu zv zw c0 c1 c2 c3 c4 c5 c6 c7 c8 c9 z3 z4 z5 z6 z7 hB;obtain⟨c0,c1,c2,c3,c4,c5,c6,c7,c8,c9,z3,z4,z5,z6⟩:=HP.out.cells;go_wp2_with fail;obtain⟨z,hz⟩:∃ z:Nat,((128:Int)-((n:Int)%64+1+8))%64=(z:Int):=⟨((128-(n%64+1+8))%64:Nat),by omega⟩;have HZ:=hid (show (2*64-(n%64+1+8))%64=z from by omega);have hz64:z<64:=by omega
  rw[hz];clear hz zq zr;refine (qe1 _).mono ?_;rintro e W2⟨rfl,z8⟩;have zb:Below B w W2:=za.trans (z8.mono (jll (qac HP.out)));have ze:B<W2.heap.size:=jl3 (qac HP.out) z8.size;clear z8 za HP c0 c1 c2 c3 c4 c5 c6 c7 c8 c9 z3 z4 z5 z6;obtain⟨i0,hi,zg,zh,zi⟩:=info_parts qca;have zs:∀ W:World,(Instr.makeSlice 41 (.int .i64 (1+(z:Int)+8)) (.int .i64 (1+(z:Int)+8))).run Tryz.prog W=.ok (.slice (some ⟨W.heap.size,0,none⟩) (z+9) (z+9)) (W.alloc (.cells (qa0 (List.replicate (z+9) 0)) 5)):=fun W=>by
   have h:=run_make (P:=Tryz.prog) W 41 5 i0 (.int .u8 0) underlying41 hi zg .i64 .i64 (1+(z:Int)+8) (1+(z:Int)+8) (by omega) (by omega) (by rw[zi];omega) (by omega);rw[zh,qgb,show (1+(z:Int)+8).toNat=z+9 by omega,Nat.mul_one]at h;simpa using h
  clear hi zg zh zi;have zl:∀ W:World,(W.alloc (.cells (qa0 (List.replicate (z+9) 0)) 5)).cell? ⟨W.heap.size,0,none⟩=some (.int .u8 0):=fun W=>by
   rw[jco _ _ _ _ _ _ (qad W _)];exact qfB _ _ 0 (by simp)
  have zo:∀ W:World,(W.alloc (.cells (qa0 (List.replicate (z+9) 0)) 5)).frozen? ⟨W.heap.size,0,none⟩=false:=fun W=>jfr _ _ _ _ _ (qad W _);have hG:(W2.alloc (.cells ((qa0 (List.replicate (z+9) 0)).setIfInBounds 0 (.int .u8 128)) 5)).heap[W2.heap.size]?=some (.cells (qa0 (128 :: (List.replicate (z+8) 0++be 0 (n*8)))) 5):=by
   rw[qad,show (Value.int .u8 128)=.int .u8 ((128:UInt8).toNat) from rfl,qew,List.replicate_succ];simp[be]
  have HG:=hid hG;have zc:Below B w (W2.alloc (.cells ((qa0 (List.replicate (z+9) 0)).setIfInBounds 0 (.int .u8 128)) 5)):=zb.alloc (jll ze) _;clear hG;go_wp2_with fail;generalize (W2.alloc _)=W3 at *;generalize W2.heap.size=G at *;clear zs zl zo
  go_loopw [8,9] (fun x i wr=>∃ j q:Nat,j+q=z+8∧j≤8∧x=.int .u64 ((n*8/256^j:Nat):Int)∧i=.int .i64 (q:Int)∧wr.heap[G]?=some (.cells (qa0 (128 :: (List.replicate q 0++be j (n*8)))) 5)∧Below B w wr) (fun _ i _=>(intOf i).toNat)
  case atStart=>exact⟨0,z+8,by omega,by omega,by simp,by go_num,HG.out,zc⟩
  case round=>
   obtain⟨j,q,zf,hj8,rfl,rfl,hg,hb⟩:=hrel;clear HG zc zb;have z9:=hid zf;have hq:q≤z+8:=by omega
   by_cases z2:0<n*8/256^j
   ·have hj:=pad_pow n j hn z2;obtain⟨q,rfl⟩:∃ q',q=q'+1:=⟨q-1,by omega⟩;have hx:n*8/256^j≤n*8:=Nat.div_le_self _ _;have HD:=hid (show n*8/256^(j+1)=n*8/256^j/256 from by rw[Nat.pow_succ,Nat.div_div_eq_div_mul]);have HS:Hid (be (j+1) (n*8)=UInt8.ofNat (n*8/256^j)::be j (n*8)):=hid rfl;have z1:(128 :: (List.replicate (q+1) 0++be j (n*8))).length=q+1+1+j:=by simp[qbL];omega
    have cq:∃ y,wr.cell? ⟨G,q+1,none⟩=some (.int .u8 y):=by
     have zp:q+1<(128 :: (List.replicate (q+1) 0++be j (n*8))).length:=by omega
     exact⟨_,qb0 hg (q+1) _ (List.getElem?_eq_getElem zp)⟩
    obtain⟨y,cq⟩:=cq;have fq:wr.frozen? ⟨G,q+1,none⟩=false:=jfr wr _ _ _ _ hg;have zk:=hid hg;clear hg z1 zf;generalize n*8/256^j=x at *;have zn:decide ((0:Int)<(x:Int))=true:=by simp;omega
    have hqz:(q:Int)+1<(z:Int)+9:=by omega
    go_wp2_with fail;go_roundw
    case rel=>
     refine⟨j+1,q,by have:=z9.out;omega,by omega,by rw[HD.out];simp,by go_num,?_,?_⟩
     ·rw[HS.out,← pad_set,← qew];have e:(UInt8.ofNat x).toNat=x%256:=by simp
      rw[e];refine Eq.trans (heap_setCell_same _ _ _ _ _ _ zk.out) ?_;simp
     ·exact hb.setCell (jll ze) _
    case measure=>simp[intOf]
   ·have z0:=be_lead (n*8) j (Nat.eq_zero_of_not_pos z2) (8-j);have z1:(128 :: (List.replicate q 0++be j (n*8))).length=z+9:=by simp[qbL];omega
    have zm:=qbf wr G (z+9) _ (qb0 hg);rw[z1]at zm;have HE:Hid (128 :: (List.replicate q 0++be j (n*8))=padL 64 8 n):=hid (by
     rw[show j+(8-j)=8 by omega]at z0;rw[padL,HZ.out,z0,← List.append_assoc,List.replicate_append_replicate,show z+(8-j)=q by omega])
    clear hg z1 z0;generalize n*8/256^j=x at *;have zn:decide ((0:Int)<(x:Int))=false:=by simp;omega
    generalize 128 :: (List.replicate q 0++be j (n*8))=L at *;go_wp2_with fail;go_ret;exact⟨by rw[← HE.out];rfl,by rw[zj.out];exact hb⟩
def qcp(s:W8):List UInt8:=(List.range 32).map fun i=>qc9 (s.at (i/4)) (24-8*(i%4))
theorem qcx(s:W8):(qcp s).length=32:=by simp[qcp]
theorem qey(s:W8)(k m:Nat)(hk:k<8)(hm:m<4):(qcp s).take (4*k+m+1)=(qcp s).take (4*k+m)++[qc9 (s.at k) (24-8*m)]:=by
 rw[List.take_succ_eq_append_getElem (by rw[qcx];omega)];have h1:(4*k+m)/4=k:=by omega
 have h2:(4*k+m)%4=m:=by omega
 simp[qcp,h1,h2]
theorem owns_below{w w':World}{base:Nat}{e:TypeId}{size:Nat}{v:Value}{n:Nat}{xs:List Value}(h:w.ownsRow base e size v n xs)(hb:Below w.heap.size w w'):w'.ownsRow base e size v n xs:=by
 obtain⟨hl,h|⟨g,z1,z2,hv,z0,hg,h1,h2,h3,h4⟩⟩:=h
 ·exact⟨hl,.inl h⟩
 ·exact⟨hl,.inr ⟨g,z1,z2,hv,z0,qap hb (qac hg) hg,h1,h2,h3,h4⟩⟩
def qfh:Array Value:=qa0 (List.replicate 32 0)
set_option maxRecDepth 100000 in
theorem sum32_any(K:Nat→Int)(st:W8)(rest:ByteArray)(n:Nat)(w:World)(hK:TabK w K)(hr:rest.size<64)(hn:n≤1099511627776):Rt 154 #[.agg (rc32 [] [] st rest n),qcB] w (.string ⟨(qcp (qb8 (fun t=>K t/4294967296) st (rest.data.toList++padL 64 8 n))).toArray⟩):=by
 unfold Rt;go_enter func154,ntmps154;go_wp2_with fail;have hP:PrmAt ((w.alloc (.cells (rc32 [] [] st rest n) 144)).alloc (.cells #[.int .i64 64,.int .i64 64,.int .u64 7,.int .u64 18,.int .u64 3,.int .u64 17,.int .u64 19,.int .u64 10,.int .u64 6,.int .u64 11,.int .u64 25,.int .u64 2,.int .u64 13,.int .u64 22] 95)) (w.heap.size+1):=qaz w _ _;have hR:=qah (o:=(.cells #[.int .i64 64,.int .i64 64,.int .u64 7,.int .u64 18,.int .u64 3,.int .u64 17,.int .u64 19,.int .u64 10,.int .u64 6,.int .u64 11,.int .u64 25,.int .u64 2,.int .u64 13,.int .u64 22] 95)) (qad w (.cells (rc32 [] [] st rest n) 144));have hB:=qaL w (.cells (rc32 [] [] st rest n) 144) (.cells #[.int .i64 64,.int .i64 64,.int .u64 7,.int .u64 18,.int .u64 3,.int .u64 17,.int .u64 19,.int .u64 10,.int .u64 6,.int .u64 11,.int .u64 25,.int .u64 2,.int .u64 13,.int .u64 22] 95);have hT:=hK.below hB hK.lt;have hlow:=hK.lt;generalize ((w.alloc _).alloc _)=W at *;generalize zs:w.heap.size=B at *;have zC:=hid zs;have HP:=hid hP;have HR:=hid hR;have cl:W.cell? ⟨B,9,none⟩=some (.int .u64 (n:Int)):=by
  rw[jco W _ _ _ _ _ hR];exact rc32_len [] [] st rest n
 clear zs hP hR hK;obtain⟨c0,c1,c2,c3,c4,c5,c6,c7,c8,c9,z9,za,zb,zc⟩:=HP.out.cells;have k0:=jcr c0;have k1:=jcr c1;have k2:=jcr c2;have k3:=jcr c3;have k4:=jcr c4;have k5:=jcr c5;have k6:=jcr c6;have k7:=jcr c7;have k8:=jcr c8;have k9:=jcr c9;have zO:=jcr z9;have zP:=jcr za;have zQ:=jcr zb;have zR:=jcr zc;have kl:=jcr cl;refine qak 5 (by kernel_rfl) (by kernel_rfl) ?_;simp only[zks]
 repeat (quiet_step ((go_at_call 196;exact Calls.regrown_of (padding256_any n _ hn))))
 refine jqn ?_;intro W1 z6;clear k0 k1 k2 k3 k4 k5 k6 k7 k8 k9 zO zP zQ zR c0 c1 c2 c3 c4 c5 c6 c7 c8 c9 z9 za zb zc kl cl;have zm:(⟨(padL 64 8 n).toArray⟩:ByteArray).size≤1099511627776:=by
  have:((2*64-(n%64+1+8))%64)<64:=Nat.mod_lt _ (by omega);show (padL 64 8 n).toArray.size≤_;simp[padL,qbL];omega
 go_wp2_with fail;refine (write32_any K B 144 [] [] st rest ⟨(padL 64 8 n).toArray⟩ n W1 (hkq HR z6) (hT.below z6 hT.lt) (by omega) hr zm (by omega) (by omega)).mono ?_;rintro e W2⟨rfl,zf,z8,z5,z7⟩;have zu:PrmAt W2 (B+1):=(z7.block _ (jl3 (qac HP.out) z6.size) (by omega)).trans (HP.out.below z6 (qac HP.out));have zp:Below B w W2:=(hB.trans (z6.mono (jll (qac HR.out)))).trans (z7.below (jlr _) (jlt (jll (qac HR.out)) z6.size));replace HP:=hid zu;clear HR hT z6 z8 z7 zu hB zm;generalize zd:qb8 (fun t=>K t/4294967296) st (rest.data.toList++padL 64 8 n)=out at *;have zi:=hid zd;clear zd;generalize (n:Int)+((⟨(padL 64 8 n).toArray⟩:ByteArray).size:Int)=ln at *;have HW:=hid z5;clear z5;obtain⟨c0,c1,c2,c3,c4,c5,c6,c7,c8,c9,z9,za,zb,zc⟩:=HP.out.cells;go_wp2_with fail;refine (wordBytes256 _).mono ?_;rintro e W3⟨rfl,zg⟩;clear c0 c1 c2 c3 c4 c5 c6 c7 c8 c9 z9 za zb zc;have zw:=hkq HW zg;have zj:=HP.out.below zg (qac HP.out);have zq:Below B w W3:=zp.trans (zg.mono (jll (qac HW.out)));have zl:=qac zj;obtain⟨i0,hi,zM,zB,zN⟩:=info_parts qca;have zK:∀ W:World,(Instr.makeSlice 41 (.int .i64 0) (.int .i64 32)).run Tryz.prog W=.ok (.slice (some ⟨W.heap.size,0,none⟩) 0 32) (W.alloc (.cells qfh 5)):=fun W=>by
  have h:=run_make (P:=Tryz.prog) W 41 5 i0 (.int .u8 0) underlying41 hi zM .i64 .i64 0 32 (by omega) (by omega) (by rw[zN];omega) (by omega);rw[zB,qgb]at h;exact h
 have zx:(W3.alloc (.cells qfh 5)).heap[B]?=_:=qah zw;have m:∀ j,j<8→(W3.alloc (.cells qfh 5)).cell? ⟨B,j,none⟩=some (.int .u32 (out.at j)):=fun j hj=>by
  rw[jco _ _ _ _ _ _ zx];simpa using qgN [] [] out zf ln j hj
 have m0:=m 0 (by omega);have m1:=m 1 (by omega);have m2:=m 2 (by omega);have m3:=m 3 (by omega);have m4:=m 4 (by omega);have m5:=m 5 (by omega);have m6:=m 6 (by omega);have m7:=m 7 (by omega);simp only[W8.at]at m0 m1 m2 m3 m4 m5 m6 m7;have zv:PrmAt (W3.alloc (.cells qfh 5)) (B+1):=qah zj;have zr:Below B w (W3.alloc (.cells qfh 5)):=zq.alloc (by omega) _;have zt:(W3.alloc (.cells qfh 5)).ownsRow B 5 1 (.slice (some ⟨W3.heap.size,0,none⟩) 0 32) 0 (Lib.byteCells ((qcp out).take 0)):=
  ⟨rfl,.inr ⟨W3.heap.size,32,_,rfl,by omega,qad W3 _,by omega,by unfold maxLen;omega,by rw[qfh,bcells_size];simp,rfl⟩⟩
 have zn:=hid zt;have zo:=hid zv;clear zw zj zq zx m HP HW zp zg zt zv;go_wp2_with fail;clear m0 m1 m2 m3 m4 m5 m6 m7 zK;have hBG:B+1<W3.heap.size:=zl;generalize (W3.alloc _)=W4 at *;generalize W3.heap.size=G at *
 go_loopw [5,21] (fun o i wr=>∃ k:Nat,k≤8∧i=.int .i64 k∧o=.slice (some ⟨G,0,none⟩) (4*k) 32∧wr.ownsRow B 5 1 (.slice (some ⟨G,0,none⟩) (4*k) 32) (4*k) (Lib.byteCells ((qcp out).take (4*k)))∧PrmAt wr (B+1)∧Below B w wr) (fun _ i _=>8-(intOf i).toNat)
 case atStart=>exact⟨0,by omega,rfl,rfl,zn.out,zo.out,zr⟩
 case round=>
  clear zn zo zr;obtain⟨k,hk,rfl,rfl,z1,hp,hb⟩:=hrel;have HP:=hid hp;have z0:=hid z1;clear hp z1;by_cases zz:k<8
  ·have hd:decide ((k:Int)<8)=true:=by simp;omega
   have zI:∀ w,(Instr.index 142 (.agg #[.int .u32 out.a,.int .u32 out.b,.int .u32 out.c,.int .u32 out.d,.int .u32 out.e,.int .u32 out.f,.int .u32 out.g,.int .u32 out.h]) (.int .i64 (k:Int))).run Tryz.prog w=.ok (.int .u32 (out.at k)) w:=fun w=>index8_32 out w k zz;obtain⟨c0,c1,c2,c3,c4,c5,c6,c7,c8,c9,z9,za,zb,zc⟩:=HP.out.cells;go_wp2_with fail;refine (qfn _).mono ?_;rintro e W5⟨rfl,zh⟩;clear c0 c1 c2 c3 c4 c5 c6 c7 c8 c9 z9 za zb zc;go_wp2_with fail;have z3:=owns_below z0.out zh;have zA:=HP.out.below zh (qac HP.out);have zy:Below B w W5:=hb.trans (zh.mono (by have:=qac HP.out;omega));clear z0 HP hb zh
   go_loopw [5,8] (fun o sh wr=>∃ m s:Nat,m≤4∧s+8*m=32∧sh=.int .u64 (s:Int)∧o=.slice (some ⟨G,0,none⟩) (4*k+m) 32∧wr.ownsRow B 5 1 (.slice (some ⟨G,0,none⟩) (4*k+m) 32) (4*k+m) (Lib.byteCells ((qcp out).take (4*k+m)))∧PrmAt wr (B+1)∧Below B w wr) (fun _ sh _=>(intOf sh).toNat)
   case atStart=>exact⟨0,32,by omega,by omega,rfl,rfl,z3,zA,zy⟩
   case round=>
    clear z3 zA zy zI hd;obtain⟨m,s,hm,hs,rfl,rfl,z1,hp,hb⟩:=hrel;have HP:=hid hp;clear hp;by_cases zJ:m<4
    ·have hd:decide ((0:Int)<(s:Int))=true:=by simp;omega
     have hs8:(8:Int)≤(s:Int):=by omega
     have hs32:(s:Int)≤32:=by omega
     have zk:4*k+m+1≤32:=by omega
     have zF:=hid (qey out k m zz zJ);have zD:=hid (show s-8=24-8*m from by omega);have HW:=hid (qde (out.at k) (s-8));have z0:=hid z1;have zE:=hid hs;clear z1 hs;generalize out.at k=v at *;go_wp2_with (at_builtin;refine wpList_append_fits _ rfl (.tmp 30) (.tmp 35) 41 rfl B 5 i0 1 underlying41 hi zB G (4*k+m) 32 _ rfl (z0.out.alloc _) ⟨wr.heap.size,0,none⟩ 1 1 [.int .u8 (v/2^(s-8)%256)] rfl rfl ?c1 ?c2 ?c3 ?_)
     case c1=>
      intro j u hj
      match j,hj with
      | 0,hj=>simp at hj;subst hj;simp[Addr.add]
     case c2=>intro u hu;simp at hu;subst hu;rfl
     case c3=>exact zk
     ·intro W6 z4 z2;have ze:W6.ownsRow B 5 1 (.slice (some ⟨G,0,none⟩) (4*k+(m+1)) 32) (4*k+(m+1)) (Lib.byteCells ((qcp out).take (4*k+(m+1)))):=by
       rw[← Nat.add_assoc,zF.out,Lib.byteCells_append,← zD.out];have e:Lib.byteCells [qc9 v (s-8)]=[.int .u8 (v/2^(s-8)%256)]:=by simp[Lib.byteCells,HW.out]
       rw[e];exact z4
      have zm:=qac HP.out;have zL:PrmAt W6 (B+1):=(z2.block _ (by simp;omega) (by simp;omega)).trans (qah HP.out);have zG:Below B w W6:=(hb.alloc (by omega) _).grown z2 (by simp;omega) (by intro k hk;simp at hk;omega);clear z4 z2 z0 HP hb;go_wp2_with fail;go_roundw
      case rel=>exact⟨m+1,s-8,by omega,by have:=zE.out;omega,by go_num,rfl,ze,zL,zG⟩
      case measure=>simp[intOf];omega
    ·have hd:decide ((0:Int)<(s:Int))=false:=by simp;omega
     obtain rfl:m=4:=by omega
     go_wp2_with fail;go_roundw
     case rel=>exact⟨k+1,by omega,by go_num,by rw[Nat.mul_succ],z1,HP.out,hb⟩
     case measure=>simp[intOf];omega
  ·have hd:decide ((k:Int)<8)=false:=by simp;omega
   obtain rfl:k=8:=by omega
   have zH:=qbf wr G 32 (qcp out) (fun j x hx=>by
    have hj:j<32:=by
     have:=(List.getElem?_eq_some_iff.1 hx).1;rwa[qcx]at this
    rw[z0.out.cellAt j (by omega),jtl (by rw[qcx];omega)];simp[Lib.byteCells,hx])
   rw[qcx]at zH;go_wp2_with fail;go_ret;exact⟨by rw[zi.out];rfl,by rw[zC.out];exact hb⟩
def qd3(K H:Nat→Int)(l:List UInt8):List UInt8:=qcp (qb8 (fun t=>K t/4294967296) (qbH H) (l++padL 64 8 l.length))
theorem full32_append(K:Nat→Int)(st:W8)(l m:List UInt8):qb8 K (qb8 K st l) (qcE l++m)=qb8 K st (l++m)∧qcE (qcE l++m)=qcE (l++m):=by
 induction h:l.length/64 generalizing st l with
 | zero=>
  have hs:=qeA K st l (by omega);rw[hs.1,hs.2];exact⟨rfl,rfl⟩
 | succ k ih=>
  have hl:64≤l.length:=by omega
  have h1:=qd6 K st l hl;have h2:=qd6 K st (l++m) (by rw[List.length_append];omega);have e1:(l++m).take 64=l.take 64:=by rw[List.take_append,show 64-l.length=0 by omega];simp
  have e2:(l++m).drop 64=l.drop 64++m:=by rw[List.drop_append,show 64-l.length=0 by omega];simp
  have:=ih (qdJ K st (l.take 64)) (l.drop 64) (by rw[List.length_drop];omega);rw[h1.1,h1.2,h2.1,h2.2,e1,e2];exact this
set_option maxRecDepth 100000 in
theorem digest32_any(K H:Nat→Int)(data:ByteArray)(w:World)(hK:TabK w K)(hH:TabH w H)(hd:data.size≤1099511627776):Rt 87 #[qcB,.string data] w (.string ⟨(qd3 K H data.data.toList).toArray⟩):=by
 unfold Rt;have zl:PrmAt (w.alloc (.cells #[.int .i64 64,.int .i64 64,.int .u64 7,.int .u64 18,.int .u64 3,.int .u64 17,.int .u64 19,.int .u64 10,.int .u64 6,.int .u64 11,.int .u64 25,.int .u64 2,.int .u64 13,.int .u64 22] 95)) w.heap.size:=qad w _;have z3:=qaf w (.cells #[.int .i64 64,.int .i64 64,.int .u64 7,.int .u64 18,.int .u64 3,.int .u64 17,.int .u64 19,.int .u64 10,.int .u64 6,.int .u64 11,.int .u64 25,.int .u64 2,.int .u64 13,.int .u64 22] 95);have zg:=hK.below z3 hK.lt;have zn:=hH.below z3 hH.lt;have HZ:=hid (jzi info10_32);have hlow:=hK.lt;go_enter func87,ntmps87;go_wp2_with fail;generalize (w.alloc _)=W at *;generalize zk:w.heap.size=B at *;have zo:=hid zk;have HP:=hid zl;clear zk zl hK hH;refine (start32_any H _ zn).mono ?_;rintro e W1⟨rfl,z5⟩;have zd:=HP.out.below z5 (qac HP.out);have zh:=zg.below z5 zg.lt;have zi:Below B w W1:=z3.trans (z5.mono (jll (qac HP.out)));have hl1:B<W1.heap.size:=qac zd;have hz:=HZ.out.1;have HI:=hid (show (Tryz.prog.info? 144).map (·.size)=some (rc32 [] [] (qbH H) ⟨#[]⟩ 0).size from HZ.out.2);have HO:=hid (show (rc32 [] [] (ofFn fun _=>0) ⟨#[]⟩ 0).size=(rc32 [] [] (qbH H) ⟨#[]⟩ 0).size from rfl);have H1:=hid (show (rc32 [] [] (qbH H) ⟨#[]⟩ 0).all (·.oneCell')=true from by simp[rc32,Value.oneCell']);have HG:=hid (qad W1 (.cells (rc32 [] [] (ofFn fun _=>0) ⟨#[]⟩ 0) 144))
 have zm:=jsh (W1.alloc (.cells (rc32 [] [] (ofFn fun _=>0) ⟨#[]⟩ 0) 144)) W1.heap.size _ (rc32 [] [] (qbH H) ⟨#[]⟩ 0) _ _ HG.out;have ze:PrmAt ((W1.alloc (.cells (rc32 [] [] (ofFn fun _=>0) ⟨#[]⟩ 0) 144)).setRow W1.heap.size (rc32 [] [] (qbH H) ⟨#[]⟩ 0)) B:=(jro _ _ _ _ (by omega)).trans (qah zd);have zc:Below W1.heap.size W1 ((W1.alloc (.cells (rc32 [] [] (ofFn fun _=>0) ⟨#[]⟩ 0) 144)).setRow W1.heap.size (rc32 [] [] (qbH H) ⟨#[]⟩ 0)):=jbr (qaf W1 _) (jlr _) _;have z4:=zh.below zc zh.lt;have zj:Below B w ((W1.alloc (.cells (rc32 [] [] (ofFn fun _=>0) ⟨#[]⟩ 0) 144)).setRow W1.heap.size (rc32 [] [] (qbH H) ⟨#[]⟩ 0)):=zi.trans (zc.mono (by omega));obtain⟨c0,c1,c2,c3,c4,c5,c6,c7,c8,c9,z8,z9,za,zb⟩:=ze.cells;have z6:=hid ze;have z7:=hid zm;clear HP zd zh zi z3 zg zn z5 ze zm zc;go_wp2_with (with_reducible refine jsr rfl 144 _ _ rfl W1.heap.size (rc32 [] [] (qbH H) ⟨#[]⟩ 0) rfl rfl 144 _ HG.out HI.out HO.out H1.out ?_);clear HI HO H1 HG hz c0 c1 c2 c3 c4 c5 c6 c7 c8 c9 z8 z9 za zb;generalize (W1.alloc _).setRow _ _=W2 at *;have hl2:=qac z7.out;generalize W1.heap.size=G at *;refine (write32_any K G 144 [] [] (qbH H) ⟨#[]⟩ data 0 W2 z7.out z4 (by omega) (by decide) hd (by omega) (by omega)).mono ?_;rintro e W3⟨rfl,rest,z1,z2,z0⟩
 have zf:PrmAt W3 B:=(z0.block _ (qac z6.out) (by omega)).trans z6.out;have zr:Below B w W3:=zj.trans (z0.below (by omega) (by omega));have zs:TabK W3 K:=fun t ht=>by
  have e:W3.heap[3]?=W2.heap[3]?:=z0.block _ z4.lt (by omega);rw[← z4 t ht];exact World.cell?_of_block (a:=⟨3,t,none⟩) e
 simp only[List.nil_append,Int.zero_add]at z1 z2;have zu:rest.size<64:=by rw[Lib.size_eq,z1];exact tail64_length _
 have HE:Hid (qd3 K H data.data.toList=qcp (qb8 (fun t=>K t/4294967296) (qb8 (fun t=>K t/4294967296) (qbH H) data.data.toList) (rest.data.toList++padL 64 8 data.size))):=hid (by
  rw[z1,(full32_append _ _ _ _).1,qd3,← Lib.size_eq])
 generalize zv:qb8 (fun t=>K t/4294967296) (qbH H) data.data.toList=st at *;have HI:=hid (show (Tryz.prog.info? 144).map (·.size)=some (rc32 [] [] st rest data.size).size from HZ.out.2);have zq:=hid z2;have zp:=hid zf;obtain⟨c0,c1,c2,c3,c4,c5,c6,c7,c8,c9,z8,z9,za,zb⟩:=zf.cells;clear z1 z2 zv z0 z6 z7 zf z4 zj;go_wp2_with (with_reducible refine jlw rfl 144 _ rfl G rfl 144 _ (0,0) _ zq.out underlying144 rfl HI.out ?_);refine (sum32_any K st rest data.size W3 zs zu hd).mono ?_;rintro e W4⟨rfl,zt⟩;clear c0 c1 c2 c3 c4 c5 c6 c7 c8 c9 z8 z9 za zb;go_wp2_with fail;go_ret;exact⟨by rw[HE.out];rfl,by rw[zo.out];exact zr.trans (zt.mono (jll (qac zp.out)))⟩
theorem sum256_any(K H:Nat→Int)(data:ByteArray)(w:World)(hK:TabK w K)(hH:TabH w H)(hd:data.size≤1099511627776):Rt 42 #[.string data] w (.string ⟨(qd3 K H data.data.toList).toArray⟩):=by
 unfold Rt;go_enter func42,ntmps42;go_wp2_with fail;refine (parameters256_any _).mono ?_;rintro e W1⟨rfl,z0⟩;go_wp2_with fail;refine (digest32_any K H data W1 (hK.below z0 hK.lt) (hH.below z0 hH.lt) hd).mono ?_;rintro e W2⟨rfl,z1⟩;go_wp2_with fail;go_ret;exact⟨rfl,z0.trans (z1.mono z0.size)⟩
def beg64(H:Nat→Int)(k:Nat):W8:=ofFn fun j=>if j<k then H j else 0
theorem beg64_set(H:Nat→Int)(k:Nat)(h:k<8)(r:ByteArray)(l:Int):(rc64 [] [] (beg64 H k) r l).setIfInBounds k (.int .u64 (H k))=rc64 [] [] (beg64 H (k+1)) r l:=by
 rcases lt8 h with rfl|rfl|rfl|rfl|rfl|rfl|rfl|rfl<;>rfl
def qbI(H:Nat→Int):W8:=ofFn fun j=>H j
theorem beg64_eight(H:Nat→Int):beg64 H 8=qbI H:=rfl
theorem info10_64:(Tryz.prog.info? 181).map (fun i=>(i.zero,i.size))=some (some (.agg (rc64 [] [] (ofFn fun _=>0) ⟨#[]⟩ 0)),10):=by kernel_rfl
theorem start64_any(H:Nat→Int)(w:World)(hH:TabH w H):Rt 199 #[qcC] w (.agg (rc64 [] [] (qbI H) ⟨#[]⟩ 0)):=by
 unfold Rt;have HZ:=hid (jzi info10_64);have hz:=HZ.out.1;go_enter func199,ntmps199;go_wp2_with fail;have hP:PrmBt (((w.alloc (.cells #[.int .i64 128,.int .i64 80,.int .u64 1,.int .u64 8,.int .u64 7,.int .u64 19,.int .u64 61,.int .u64 6,.int .u64 14,.int .u64 18,.int .u64 41,.int .u64 28,.int .u64 34,.int .u64 39] 95)).alloc (.cells (rc64 [] [] (ofFn fun _=>0) ⟨#[]⟩ 0) 181)).alloc (.cells (rc64 [] [] (ofFn fun _=>0) ⟨#[]⟩ 0) 181)) w.heap.size:=qah (qah (qad w _));have hR:=qah (o:=(.cells (rc64 [] [] (ofFn fun _=>0) ⟨#[]⟩ 0) 181)) (qaz w (.cells #[.int .i64 128,.int .i64 80,.int .u64 1,.int .u64 8,.int .u64 7,.int .u64 19,.int .u64 61,.int .u64 6,.int .u64 14,.int .u64 18,.int .u64 41,.int .u64 28,.int .u64 34,.int .u64 39] 95) (.cells (rc64 [] [] (ofFn fun _=>0) ⟨#[]⟩ 0) 181));have hA:=qby w (.cells #[.int .i64 128,.int .i64 80,.int .u64 1,.int .u64 8,.int .u64 7,.int .u64 19,.int .u64 61,.int .u64 6,.int .u64 14,.int .u64 18,.int .u64 41,.int .u64 28,.int .u64 34,.int .u64 39] 95) (.cells (rc64 [] [] (ofFn fun _=>0) ⟨#[]⟩ 0) 181) (.cells (rc64 [] [] (ofFn fun _=>0) ⟨#[]⟩ 0) 181)
 have hB:=qbd w (.cells #[.int .i64 128,.int .i64 80,.int .u64 1,.int .u64 8,.int .u64 7,.int .u64 19,.int .u64 61,.int .u64 6,.int .u64 14,.int .u64 18,.int .u64 41,.int .u64 28,.int .u64 34,.int .u64 39] 95) (.cells (rc64 [] [] (ofFn fun _=>0) ⟨#[]⟩ 0) 181) (.cells (rc64 [] [] (ofFn fun _=>0) ⟨#[]⟩ 0) 181);have hT:=hH.below hB hH.lt;have hlow:=hH.lt;generalize (((w.alloc _).alloc _).alloc _)=W at *;generalize z7:w.heap.size=B at *;have za:=hid z7;have HP:=hid hP;have HR:=hid hR;have HA:=hid hA;clear z7 hP hR hA hH hz
 go_loopw [5] (fun i wr=>∃ k:Nat,k≤8∧i=.int .i64 k∧PrmBt wr B∧wr.heap[B+1]?=some (.cells (rc64 [] [] (ofFn fun _=>0) ⟨#[]⟩ 0) 181)∧wr.heap[B+1+1]?=some (.cells (rc64 [] [] (beg64 H k) ⟨#[]⟩ 0) 181)∧TabH wr H∧Below B w wr) (fun i _=>8-(intOf i).toNat)
 case atStart=>exact⟨0,by omega,rfl,HP.out,HR.out,HA.out,hT,hB⟩
 case round=>
  clear HP HR HA hT hB;obtain⟨k,hk,rfl,hp,hr,ha,ht,hb⟩:=hrel;have HP:=hid hp;have HR:=hid hr;have HA:=hid ha;clear hp hr ha;by_cases z2:k<8
  ·have hd:decide ((k:Int)<8)=true:=by simp;omega
   go_wp2_with fail;obtain⟨c0,c1,c2,c3,c4,c5,c6,c7,c8,c9,z3,z4,z5,z6⟩:=HP.out.cells;have k0:=jcr c0;have k1:=jcr c1;have k2:=jcr c2;have k3:=jcr c3;have k4:=jcr c4;have k5:=jcr c5;have k6:=jcr c6;have k7:=jcr c7;have k8:=jcr c8;have k9:=jcr c9;have ze:=jcr z3;have zf:=jcr z4;have zg:=jcr z5;have zh:=jcr z6;have kh:=jcr (ht k z2);refine qak 9 (by kernel_rfl) (by kernel_rfl) ?_;simp only[zks]
   repeat (first|go_big_quiet_step ((go_at_call 194;exact Calls.regrown_of (unused512 _)))|quiet_step ((go_at_call 194;exact Calls.regrown_of (unused512 _))))
   refine jqn ?_;intro W1 z0;clear k0 k1 k2 k3 k4 k5 k6 k7 k8 k9 ze zf zg zh c0 c1 c2 c3 c4 c5 c6 c7 c8 c9 z3 z4 z5 z6 kh;have z1:=hkq HA z0;have z9:=hkq HR z0;have z8:=HP.out.below z0 (qac HP.out);have zc:=ht.below z0 ht.lt;have zb:Below B w W1:=hb.trans (z0.mono (jll (qac HP.out)));have ck:∃ y,W1.cell? ⟨B+1+1,k,none⟩=some (.int .u64 y):=by
    have:=qgO [] [] (beg64 H k) ⟨#[]⟩ 0 k z2;exact⟨_,by rw[jco W1 _ _ _ _ _ z1];simpa using this⟩
   obtain⟨y,ck⟩:=ck;have fk:W1.frozen? ⟨B+1+1,k,none⟩=false:=jfr W1 _ _ _ _ z1;replace HA:=hid z1;replace HP:=hid z8;replace HR:=hid z9;clear z1 z8 z9 ht hb z0;go_wp2_with fail;go_roundw
   case rel=>
    refine⟨k+1,by omega,by go_num,?_,?_,?_,?_,zb.setCell (by simp;omega) _⟩
    ·exact (jso _ _ _ _ (by simp;omega)).trans HP.out
    ·exact (jso _ _ _ _ (by simp)).trans HR.out
    ·rw[← beg64_set _ _ z2];exact heap_setCell_same _ _ _ _ _ _ HA.out
    ·exact fun t zd=>(World.cell?_setCell_far _ _ _ _ (by first|(simp;done)|(simp;omega))).trans (zc t zd)
   case measure=>simp[intOf];omega
  ·have hd:decide ((k:Int)<8)=false:=by simp;omega
   obtain rfl:k=8:=by omega
   rw[beg64_eight]at HA;have HI:=hid (show (Tryz.prog.info? 181).map (·.size)=some (rc64 [] [] (qbI H) ⟨#[]⟩ 0).size from HZ.out.2);have HO:=hid (show (rc64 [] [] (ofFn fun _=>0) ⟨#[]⟩ 0).size=(rc64 [] [] (qbI H) ⟨#[]⟩ 0).size from rfl);have H1:=hid (show (rc64 [] [] (qbI H) ⟨#[]⟩ 0).all (·.oneCell')=true from by simp[rc64,Value.oneCell']);go_wp2_with (first
    | (with_reducible refine jlw rfl 181 _ rfl (B+1+1) rfl 181 _ (0,0) _ HA.out underlying181 rfl HI.out ?_)
    | (with_reducible refine jsr rfl 181 _ _ rfl (B+1) (rc64 [] [] (qbI H) ⟨#[]⟩ 0) rfl rfl 181 _ HR.out HI.out HO.out H1.out ?_))
   exact jpr (v:=.agg (rc64 [] [] (qbI H) ⟨#[]⟩ 0)) (jrc (by rfl) _ _ (B+1) 181 _ (0,0) _ rfl (jsh _ _ _ _ _ _ HR.out) underlying181 rfl HI.out) rfl ⟨rfl,by rw[za.out];exact jbr hb (by omega) _⟩
theorem padding512_any(n:Nat)(w:World)(hn:n≤1099511627776):Rt 196 #[qcC,.int .u64 (n:Int)] w (.string ⟨(padL 128 16 n).toArray⟩):=by
 unfold Rt;have hP:PrmBt (w.alloc (.cells #[.int .i64 128,.int .i64 80,.int .u64 1,.int .u64 8,.int .u64 7,.int .u64 19,.int .u64 61,.int .u64 6,.int .u64 14,.int .u64 18,.int .u64 41,.int .u64 28,.int .u64 34,.int .u64 39] 95)) w.heap.size:=qad w _;have hB:=qaf w (.cells #[.int .i64 128,.int .i64 80,.int .u64 1,.int .u64 8,.int .u64 7,.int .u64 19,.int .u64 61,.int .u64 6,.int .u64 14,.int .u64 18,.int .u64 41,.int .u64 28,.int .u64 34,.int .u64 39] 95);go_enter func196,ntmps196;go_wp2_with fail;generalize (w.alloc _)=W at *;generalize zd:w.heap.size=B at *;have zj:=hid zd;have HP:=hid hP;clear zd hP
 ·obtain⟨c0,c1,c2,c3,c4,c5,c6,c7,c8,c9,z3,z4,z5,z6⟩:=HP.out.cells;have k0:=jcr c0;have k1:=jcr c1;have k2:=jcr c2;have k3:=jcr c3;have k4:=jcr c4;have k5:=jcr c5;have k6:=jcr c6;have k7:=jcr c7;have k8:=jcr c8;have k9:=jcr c9;have zt:=jcr z3;have zu:=jcr z4;have zv:=jcr z5;have zw:=jcr z6;have zq:(0:Int)≤(n:Int)%128:=by omega
  have zr:(n:Int)%128<128:=by omega
  refine qav (by kernel_rfl) (by kernel_rfl) ?_
  repeat (first|go_big_quiet_step ((go_at_call 221;exact Calls.regrown_of (qe2 _)))|quiet_step ((go_at_call 221;exact Calls.regrown_of (qe2 _))))
  refine jqn ?_;intro W1 z7;have za:Below B w W1:=hB.trans (z7.mono (jll (qac HP.out)));replace HP:=hid (HP.out.below z7 (qac HP.out));clear k0 k1 k2 k3 k4 k5 k6 k7 k8 k9 zt zu zv zw c0 c1 c2 c3 c4 c5 c6 c7 c8 c9 z3 z4 z5 z6 z7 hB;obtain⟨c0,c1,c2,c3,c4,c5,c6,c7,c8,c9,z3,z4,z5,z6⟩:=HP.out.cells;go_wp2_with fail;obtain⟨z,hz⟩:∃ z:Nat,((256:Int)-((n:Int)%128+1+16))%128=(z:Int):=⟨((256-(n%128+1+16))%128:Nat),by omega⟩;have HZ:=hid (show (2*128-(n%128+1+16))%128=z from by omega);have hz64:z<128:=by omega
  rw[hz];clear hz zq zr;refine (qe2 _).mono ?_;rintro e W2⟨rfl,z8⟩;have zb:Below B w W2:=za.trans (z8.mono (jll (qac HP.out)));have ze:B<W2.heap.size:=jl3 (qac HP.out) z8.size;clear z8 za HP c0 c1 c2 c3 c4 c5 c6 c7 c8 c9 z3 z4 z5 z6;obtain⟨i0,hi,zg,zh,zi⟩:=info_parts qca;have zs:∀ W:World,(Instr.makeSlice 41 (.int .i64 (1+(z:Int)+16)) (.int .i64 (1+(z:Int)+16))).run Tryz.prog W=.ok (.slice (some ⟨W.heap.size,0,none⟩) (z+17) (z+17)) (W.alloc (.cells (qa0 (List.replicate (z+17) 0)) 5)):=fun W=>by
   have h:=run_make (P:=Tryz.prog) W 41 5 i0 (.int .u8 0) underlying41 hi zg .i64 .i64 (1+(z:Int)+16) (1+(z:Int)+16) (by omega) (by omega) (by rw[zi];omega) (by omega);rw[zh,qgb,show (1+(z:Int)+16).toNat=z+17 by omega,Nat.mul_one]at h;simpa using h
  clear hi zg zh zi;have zl:∀ W:World,(W.alloc (.cells (qa0 (List.replicate (z+17) 0)) 5)).cell? ⟨W.heap.size,0,none⟩=some (.int .u8 0):=fun W=>by
   rw[jco _ _ _ _ _ _ (qad W _)];exact qfB _ _ 0 (by simp)
  have zo:∀ W:World,(W.alloc (.cells (qa0 (List.replicate (z+17) 0)) 5)).frozen? ⟨W.heap.size,0,none⟩=false:=fun W=>jfr _ _ _ _ _ (qad W _);have hG:(W2.alloc (.cells ((qa0 (List.replicate (z+17) 0)).setIfInBounds 0 (.int .u8 128)) 5)).heap[W2.heap.size]?=some (.cells (qa0 (128 :: (List.replicate (z+16) 0++be 0 (n*8)))) 5):=by
   rw[qad,show (Value.int .u8 128)=.int .u8 ((128:UInt8).toNat) from rfl,qew,List.replicate_succ];simp[be]
  have HG:=hid hG;have zc:Below B w (W2.alloc (.cells ((qa0 (List.replicate (z+17) 0)).setIfInBounds 0 (.int .u8 128)) 5)):=zb.alloc (jll ze) _;clear hG;go_wp2_with fail;generalize (W2.alloc _)=W3 at *;generalize W2.heap.size=G at *;clear zs zl zo
  go_loopw [8,9] (fun x i wr=>∃ j q:Nat,j+q=z+16∧j≤8∧x=.int .u64 ((n*8/256^j:Nat):Int)∧i=.int .i64 (q:Int)∧wr.heap[G]?=some (.cells (qa0 (128 :: (List.replicate q 0++be j (n*8)))) 5)∧Below B w wr) (fun _ i _=>(intOf i).toNat)
  case atStart=>exact⟨0,z+16,by omega,by omega,by simp,by go_num,HG.out,zc⟩
  case round=>
   obtain⟨j,q,zf,hj8,rfl,rfl,hg,hb⟩:=hrel;clear HG zc zb;have z9:=hid zf;have hq:q≤z+16:=by omega
   by_cases z2:0<n*8/256^j
   ·have hj:=pad_pow n j hn z2;obtain⟨q,rfl⟩:∃ q',q=q'+1:=⟨q-1,by omega⟩;have hx:n*8/256^j≤n*8:=Nat.div_le_self _ _;have HD:=hid (show n*8/256^(j+1)=n*8/256^j/256 from by rw[Nat.pow_succ,Nat.div_div_eq_div_mul]);have HS:Hid (be (j+1) (n*8)=UInt8.ofNat (n*8/256^j)::be j (n*8)):=hid rfl;have z1:(128 :: (List.replicate (q+1) 0++be j (n*8))).length=q+1+1+j:=by simp[qbL];omega
    have cq:∃ y,wr.cell? ⟨G,q+1,none⟩=some (.int .u8 y):=by
     have zp:q+1<(128 :: (List.replicate (q+1) 0++be j (n*8))).length:=by omega
     exact⟨_,qb0 hg (q+1) _ (List.getElem?_eq_getElem zp)⟩
    obtain⟨y,cq⟩:=cq;have fq:wr.frozen? ⟨G,q+1,none⟩=false:=jfr wr _ _ _ _ hg;have zk:=hid hg;clear hg z1 zf;generalize n*8/256^j=x at *;have zn:decide ((0:Int)<(x:Int))=true:=by simp;omega
    have hqz:(q:Int)+1<(z:Int)+17:=by omega
    go_wp2_with fail;go_roundw
    case rel=>
     refine⟨j+1,q,by have:=z9.out;omega,by omega,by rw[HD.out];simp,by go_num,?_,?_⟩
     ·rw[HS.out,← pad_set,← qew];have e:(UInt8.ofNat x).toNat=x%256:=by simp
      rw[e];refine Eq.trans (heap_setCell_same _ _ _ _ _ _ zk.out) ?_;simp
     ·exact hb.setCell (jll ze) _
    case measure=>simp[intOf]
   ·have z0:=be_lead (n*8) j (Nat.eq_zero_of_not_pos z2) (16-j);have z1:(128 :: (List.replicate q 0++be j (n*8))).length=z+17:=by simp[qbL];omega
    have zm:=qbf wr G (z+17) _ (qb0 hg);rw[z1]at zm;have HE:Hid (128 :: (List.replicate q 0++be j (n*8))=padL 128 16 n):=hid (by
     rw[show j+(16-j)=16 by omega]at z0;rw[padL,HZ.out,z0,← List.append_assoc,List.replicate_append_replicate,show z+(16-j)=q by omega])
    clear hg z1 z0;generalize n*8/256^j=x at *;have zn:decide ((0:Int)<(x:Int))=false:=by simp;omega
    generalize 128 :: (List.replicate q 0++be j (n*8))=L at *;go_wp2_with fail;go_ret;exact⟨by rw[← HE.out];rfl,by rw[zj.out];exact hb⟩
def qcq(s:W8):List UInt8:=(List.range 64).map fun i=>qc9 (s.at (i/8)) (56-8*(i%8))
theorem qcg(s:W8):(qcq s).length=64:=by simp[qcq]
theorem dig64_snoc(s:W8)(k m:Nat)(hk:k<8)(hm:m<8):(qcq s).take (8*k+m+1)=(qcq s).take (8*k+m)++[qc9 (s.at k) (56-8*m)]:=by
 rw[List.take_succ_eq_append_getElem (by rw[qcg];omega)];have h1:(8*k+m)/8=k:=by omega
 have h2:(8*k+m)%8=m:=by omega
 simp[qcq,h1,h2]
def qfi:Array Value:=qa0 (List.replicate 64 0)
set_option maxRecDepth 100000 in
theorem sum64_any(K:Nat→Int)(st:W8)(rest:ByteArray)(n:Nat)(w:World)(hK:TabK w K)(hr:rest.size<128)(hn:n≤1099511627776):Rt 201 #[.agg (rc64 [] [] st rest n),qcC] w (.string ⟨(qcq (qb9 (fun t=>K t) st (rest.data.toList++padL 128 16 n))).toArray⟩):=by
 unfold Rt;go_enter func201,ntmps201;go_wp2_with fail;have hP:PrmBt ((w.alloc (.cells (rc64 [] [] st rest n) 181)).alloc (.cells #[.int .i64 128,.int .i64 80,.int .u64 1,.int .u64 8,.int .u64 7,.int .u64 19,.int .u64 61,.int .u64 6,.int .u64 14,.int .u64 18,.int .u64 41,.int .u64 28,.int .u64 34,.int .u64 39] 95)) (w.heap.size+1):=qaz w _ _;have hR:=qah (o:=(.cells #[.int .i64 128,.int .i64 80,.int .u64 1,.int .u64 8,.int .u64 7,.int .u64 19,.int .u64 61,.int .u64 6,.int .u64 14,.int .u64 18,.int .u64 41,.int .u64 28,.int .u64 34,.int .u64 39] 95)) (qad w (.cells (rc64 [] [] st rest n) 181));have hB:=qaL w (.cells (rc64 [] [] st rest n) 181) (.cells #[.int .i64 128,.int .i64 80,.int .u64 1,.int .u64 8,.int .u64 7,.int .u64 19,.int .u64 61,.int .u64 6,.int .u64 14,.int .u64 18,.int .u64 41,.int .u64 28,.int .u64 34,.int .u64 39] 95);have hT:=hK.below hB hK.lt;have hlow:=hK.lt;generalize ((w.alloc _).alloc _)=W at *;generalize zs:w.heap.size=B at *;have zC:=hid zs;have HP:=hid hP;have HR:=hid hR;have cl:W.cell? ⟨B,9,none⟩=some (.int .u64 (n:Int)):=by
  rw[jco W _ _ _ _ _ hR];exact rc64_len [] [] st rest n
 clear zs hP hR hK;obtain⟨c0,c1,c2,c3,c4,c5,c6,c7,c8,c9,z9,za,zb,zc⟩:=HP.out.cells;have k0:=jcr c0;have k1:=jcr c1;have k2:=jcr c2;have k3:=jcr c3;have k4:=jcr c4;have k5:=jcr c5;have k6:=jcr c6;have k7:=jcr c7;have k8:=jcr c8;have k9:=jcr c9;have zO:=jcr z9;have zP:=jcr za;have zQ:=jcr zb;have zR:=jcr zc;have kl:=jcr cl;refine qak 5 (by kernel_rfl) (by kernel_rfl) ?_;simp only[zks]
 repeat (quiet_step ((go_at_call 196;exact Calls.regrown_of (padding512_any n _ hn))))
 refine jqn ?_;intro W1 z6;clear k0 k1 k2 k3 k4 k5 k6 k7 k8 k9 zO zP zQ zR c0 c1 c2 c3 c4 c5 c6 c7 c8 c9 z9 za zb zc kl cl;have zm:(⟨(padL 128 16 n).toArray⟩:ByteArray).size≤1099511627776:=by
  have:((2*128-(n%128+1+16))%128)<128:=Nat.mod_lt _ (by omega);show (padL 128 16 n).toArray.size≤_;simp[padL,qbL];omega
 go_wp2_with fail;refine (write64_any K B 181 [] [] st rest ⟨(padL 128 16 n).toArray⟩ n W1 (hkq HR z6) (hT.below z6 hT.lt) (by omega) hr zm (by omega) (by omega)).mono ?_;rintro e W2⟨rfl,zf,z8,z5,z7⟩;have zu:PrmBt W2 (B+1):=(z7.block _ (jl3 (qac HP.out) z6.size) (by omega)).trans (HP.out.below z6 (qac HP.out));have zp:Below B w W2:=(hB.trans (z6.mono (jll (qac HR.out)))).trans (z7.below (jlr _) (jlt (jll (qac HR.out)) z6.size));replace HP:=hid zu;clear HR hT z6 z8 z7 zu hB zm;generalize zd:qb9 (fun t=>K t) st (rest.data.toList++padL 128 16 n)=out at *;have zi:=hid zd;clear zd;generalize (n:Int)+((⟨(padL 128 16 n).toArray⟩:ByteArray).size:Int)=ln at *;have HW:=hid z5;clear z5;obtain⟨c0,c1,c2,c3,c4,c5,c6,c7,c8,c9,z9,za,zb,zc⟩:=HP.out.cells;go_wp2_with fail;refine (wordBytes512 _).mono ?_;rintro e W3⟨rfl,zg⟩;clear c0 c1 c2 c3 c4 c5 c6 c7 c8 c9 z9 za zb zc;have zw:=hkq HW zg;have zj:=HP.out.below zg (qac HP.out);have zq:Below B w W3:=zp.trans (zg.mono (jll (qac HW.out)));have zl:=qac zj;obtain⟨i0,hi,zM,zB,zN⟩:=info_parts qca;have zK:∀ W:World,(Instr.makeSlice 41 (.int .i64 0) (.int .i64 64)).run Tryz.prog W=.ok (.slice (some ⟨W.heap.size,0,none⟩) 0 64) (W.alloc (.cells qfi 5)):=fun W=>by
  have h:=run_make (P:=Tryz.prog) W 41 5 i0 (.int .u8 0) underlying41 hi zM .i64 .i64 0 64 (by omega) (by omega) (by rw[zN];omega) (by omega);rw[zB,qgb]at h;exact h
 have zx:(W3.alloc (.cells qfi 5)).heap[B]?=_:=qah zw;have m:∀ j,j<8→(W3.alloc (.cells qfi 5)).cell? ⟨B,j,none⟩=some (.int .u64 (out.at j)):=fun j hj=>by
  rw[jco _ _ _ _ _ _ zx];simpa using qgO [] [] out zf ln j hj
 have m0:=m 0 (by omega);have m1:=m 1 (by omega);have m2:=m 2 (by omega);have m3:=m 3 (by omega);have m4:=m 4 (by omega);have m5:=m 5 (by omega);have m6:=m 6 (by omega);have m7:=m 7 (by omega);simp only[W8.at]at m0 m1 m2 m3 m4 m5 m6 m7;have zv:PrmBt (W3.alloc (.cells qfi 5)) (B+1):=qah zj;have zr:Below B w (W3.alloc (.cells qfi 5)):=zq.alloc (by omega) _;have zt:(W3.alloc (.cells qfi 5)).ownsRow B 5 1 (.slice (some ⟨W3.heap.size,0,none⟩) 0 64) 0 (Lib.byteCells ((qcq out).take 0)):=
  ⟨rfl,.inr ⟨W3.heap.size,64,_,rfl,by omega,qad W3 _,by omega,by unfold maxLen;omega,by rw[qfi,bcells_size];simp,rfl⟩⟩
 have zn:=hid zt;have zo:=hid zv;clear zw zj zq zx m HP HW zp zg zt zv;go_wp2_with fail;clear m0 m1 m2 m3 m4 m5 m6 m7 zK;have hBG:B+1<W3.heap.size:=zl;generalize (W3.alloc _)=W4 at *;generalize W3.heap.size=G at *
 go_loopw [5,21] (fun o i wr=>∃ k:Nat,k≤8∧i=.int .i64 k∧o=.slice (some ⟨G,0,none⟩) (8*k) 64∧wr.ownsRow B 5 1 (.slice (some ⟨G,0,none⟩) (8*k) 64) (8*k) (Lib.byteCells ((qcq out).take (8*k)))∧PrmBt wr (B+1)∧Below B w wr) (fun _ i _=>8-(intOf i).toNat)
 case atStart=>exact⟨0,by omega,rfl,rfl,zn.out,zo.out,zr⟩
 case round=>
  clear zn zo zr;obtain⟨k,hk,rfl,rfl,z1,hp,hb⟩:=hrel;have HP:=hid hp;have z0:=hid z1;clear hp z1;by_cases zz:k<8
  ·have hd:decide ((k:Int)<8)=true:=by simp;omega
   have zI:∀ w,(Instr.index 175 (.agg #[.int .u64 out.a,.int .u64 out.b,.int .u64 out.c,.int .u64 out.d,.int .u64 out.e,.int .u64 out.f,.int .u64 out.g,.int .u64 out.h]) (.int .i64 (k:Int))).run Tryz.prog w=.ok (.int .u64 (out.at k)) w:=fun w=>index8_64 out w k zz;obtain⟨c0,c1,c2,c3,c4,c5,c6,c7,c8,c9,z9,za,zb,zc⟩:=HP.out.cells;go_wp2_with fail;refine (qfo _).mono ?_;rintro e W5⟨rfl,zh⟩;clear c0 c1 c2 c3 c4 c5 c6 c7 c8 c9 z9 za zb zc;go_wp2_with fail;have z3:=owns_below z0.out zh;have zA:=HP.out.below zh (qac HP.out);have zy:Below B w W5:=hb.trans (zh.mono (by have:=qac HP.out;omega));clear z0 HP hb zh
   go_loopw [5,8] (fun o sh wr=>∃ m s:Nat,m≤8∧s+8*m=64∧sh=.int .u64 (s:Int)∧o=.slice (some ⟨G,0,none⟩) (8*k+m) 64∧wr.ownsRow B 5 1 (.slice (some ⟨G,0,none⟩) (8*k+m) 64) (8*k+m) (Lib.byteCells ((qcq out).take (8*k+m)))∧PrmBt wr (B+1)∧Below B w wr) (fun _ sh _=>(intOf sh).toNat)
   case atStart=>exact⟨0,64,by omega,by omega,rfl,rfl,z3,zA,zy⟩
   case round=>
    clear z3 zA zy zI hd;obtain⟨m,s,hm,hs,rfl,rfl,z1,hp,hb⟩:=hrel;have HP:=hid hp;clear hp;by_cases zJ:m<8
    ·have hd:decide ((0:Int)<(s:Int))=true:=by simp;omega
     have hs8:(8:Int)≤(s:Int):=by omega
     have hs32:(s:Int)≤64:=by omega
     have zk:8*k+m+1≤64:=by omega
     have zF:=hid (dig64_snoc out k m zz zJ);have zD:=hid (show s-8=56-8*m from by omega);have HW:=hid (qde (out.at k) (s-8));have z0:=hid z1;have zE:=hid hs;clear z1 hs;generalize out.at k=v at *;go_wp2_with (at_builtin;refine wpList_append_fits _ rfl (.tmp 30) (.tmp 35) 41 rfl B 5 i0 1 underlying41 hi zB G (8*k+m) 64 _ rfl (z0.out.alloc _) ⟨wr.heap.size,0,none⟩ 1 1 [.int .u8 (v/2^(s-8)%256)] rfl rfl ?c1 ?c2 ?c3 ?_)
     case c1=>
      intro j u hj
      match j,hj with
      | 0,hj=>simp at hj;subst hj;simp[Addr.add]
     case c2=>intro u hu;simp at hu;subst hu;rfl
     case c3=>exact zk
     ·intro W6 z4 z2;have ze:W6.ownsRow B 5 1 (.slice (some ⟨G,0,none⟩) (8*k+(m+1)) 64) (8*k+(m+1)) (Lib.byteCells ((qcq out).take (8*k+(m+1)))):=by
       rw[← Nat.add_assoc,zF.out,Lib.byteCells_append,← zD.out];have e:Lib.byteCells [qc9 v (s-8)]=[.int .u8 (v/2^(s-8)%256)]:=by simp[Lib.byteCells,HW.out]
       rw[e];exact z4
      have zm:=qac HP.out;have zL:PrmBt W6 (B+1):=(z2.block _ (by simp;omega) (by simp;omega)).trans (qah HP.out);have zG:Below B w W6:=(hb.alloc (by omega) _).grown z2 (by simp;omega) (by intro k hk;simp at hk;omega);clear z4 z2 z0 HP hb;go_wp2_with fail;go_roundw
      case rel=>exact⟨m+1,s-8,by omega,by have:=zE.out;omega,by go_num,rfl,ze,zL,zG⟩
      case measure=>simp[intOf];omega
    ·have hd:decide ((0:Int)<(s:Int))=false:=by simp;omega
     obtain rfl:m=8:=by omega
     go_wp2_with fail;go_roundw
     case rel=>exact⟨k+1,by omega,by go_num,by rw[Nat.mul_succ],z1,HP.out,hb⟩
     case measure=>simp[intOf];omega
  ·have hd:decide ((k:Int)<8)=false:=by simp;omega
   obtain rfl:k=8:=by omega
   have zH:=qbf wr G 64 (qcq out) (fun j x hx=>by
    have hj:j<64:=by
     have:=(List.getElem?_eq_some_iff.1 hx).1;rwa[qcg]at this
    rw[z0.out.cellAt j (by omega),jtl (by rw[qcg];omega)];simp[Lib.byteCells,hx])
   rw[qcg]at zH;go_wp2_with fail;go_ret;exact⟨by rw[zi.out];rfl,by rw[zC.out];exact hb⟩
def qdl(K H:Nat→Int)(l:List UInt8):List UInt8:=qcq (qb9 (fun t=>K t) (qbI H) (l++padL 128 16 l.length))
theorem full64_append(K:Nat→Int)(st:W8)(l m:List UInt8):qb9 K (qb9 K st l) (qcm l++m)=qb9 K st (l++m)∧qcm (qcm l++m)=qcm (l++m):=by
 induction h:l.length/128 generalizing st l with
 | zero=>
  have hs:=qeB K st l (by omega);rw[hs.1,hs.2];exact⟨rfl,rfl⟩
 | succ k ih=>
  have hl:128≤l.length:=by omega
  have h1:=qd7 K st l hl;have h2:=qd7 K st (l++m) (by rw[List.length_append];omega);have e1:(l++m).take 128=l.take 128:=by rw[List.take_append,show 128-l.length=0 by omega];simp
  have e2:(l++m).drop 128=l.drop 128++m:=by rw[List.drop_append,show 128-l.length=0 by omega];simp
  have:=ih (qdK K st (l.take 128)) (l.drop 128) (by rw[List.length_drop];omega);rw[h1.1,h1.2,h2.1,h2.2,e1,e2];exact this
set_option maxRecDepth 100000 in
theorem digest64_any(K H:Nat→Int)(data:ByteArray)(w:World)(hK:TabK w K)(hH:TabH w H)(hd:data.size≤1099511627776):Rt 155 #[qcC,.string data] w (.string ⟨(qdl K H data.data.toList).toArray⟩):=by
 unfold Rt;have zl:PrmBt (w.alloc (.cells #[.int .i64 128,.int .i64 80,.int .u64 1,.int .u64 8,.int .u64 7,.int .u64 19,.int .u64 61,.int .u64 6,.int .u64 14,.int .u64 18,.int .u64 41,.int .u64 28,.int .u64 34,.int .u64 39] 95)) w.heap.size:=qad w _;have z3:=qaf w (.cells #[.int .i64 128,.int .i64 80,.int .u64 1,.int .u64 8,.int .u64 7,.int .u64 19,.int .u64 61,.int .u64 6,.int .u64 14,.int .u64 18,.int .u64 41,.int .u64 28,.int .u64 34,.int .u64 39] 95);have zg:=hK.below z3 hK.lt;have zn:=hH.below z3 hH.lt;have HZ:=hid (jzi info10_64);have hlow:=hK.lt;go_enter func155,ntmps155;go_wp2_with fail;generalize (w.alloc _)=W at *;generalize zk:w.heap.size=B at *;have zo:=hid zk;have HP:=hid zl;clear zk zl hK hH;refine (start64_any H _ zn).mono ?_;rintro e W1⟨rfl,z5⟩;have zd:=HP.out.below z5 (qac HP.out);have zh:=zg.below z5 zg.lt;have zi:Below B w W1:=z3.trans (z5.mono (jll (qac HP.out)));have hl1:B<W1.heap.size:=qac zd;have hz:=HZ.out.1;have HI:=hid (show (Tryz.prog.info? 181).map (·.size)=some (rc64 [] [] (qbI H) ⟨#[]⟩ 0).size from HZ.out.2);have HO:=hid (show (rc64 [] [] (ofFn fun _=>0) ⟨#[]⟩ 0).size=(rc64 [] [] (qbI H) ⟨#[]⟩ 0).size from rfl);have H1:=hid (show (rc64 [] [] (qbI H) ⟨#[]⟩ 0).all (·.oneCell')=true from by simp[rc64,Value.oneCell']);have HG:=hid (qad W1 (.cells (rc64 [] [] (ofFn fun _=>0) ⟨#[]⟩ 0) 181))
 have zm:=jsh (W1.alloc (.cells (rc64 [] [] (ofFn fun _=>0) ⟨#[]⟩ 0) 181)) W1.heap.size _ (rc64 [] [] (qbI H) ⟨#[]⟩ 0) _ _ HG.out;have ze:PrmBt ((W1.alloc (.cells (rc64 [] [] (ofFn fun _=>0) ⟨#[]⟩ 0) 181)).setRow W1.heap.size (rc64 [] [] (qbI H) ⟨#[]⟩ 0)) B:=(jro _ _ _ _ (by omega)).trans (qah zd);have zc:Below W1.heap.size W1 ((W1.alloc (.cells (rc64 [] [] (ofFn fun _=>0) ⟨#[]⟩ 0) 181)).setRow W1.heap.size (rc64 [] [] (qbI H) ⟨#[]⟩ 0)):=jbr (qaf W1 _) (jlr _) _;have z4:=zh.below zc zh.lt;have zj:Below B w ((W1.alloc (.cells (rc64 [] [] (ofFn fun _=>0) ⟨#[]⟩ 0) 181)).setRow W1.heap.size (rc64 [] [] (qbI H) ⟨#[]⟩ 0)):=zi.trans (zc.mono (by omega));obtain⟨c0,c1,c2,c3,c4,c5,c6,c7,c8,c9,z8,z9,za,zb⟩:=ze.cells;have z6:=hid ze;have z7:=hid zm;clear HP zd zh zi z3 zg zn z5 ze zm zc;go_wp2_with (with_reducible refine jsr rfl 181 _ _ rfl W1.heap.size (rc64 [] [] (qbI H) ⟨#[]⟩ 0) rfl rfl 181 _ HG.out HI.out HO.out H1.out ?_);clear HI HO H1 HG hz c0 c1 c2 c3 c4 c5 c6 c7 c8 c9 z8 z9 za zb;generalize (W1.alloc _).setRow _ _=W2 at *;have hl2:=qac z7.out;generalize W1.heap.size=G at *;refine (write64_any K G 181 [] [] (qbI H) ⟨#[]⟩ data 0 W2 z7.out z4 (by omega) (by decide) hd (by omega) (by omega)).mono ?_;rintro e W3⟨rfl,rest,z1,z2,z0⟩
 have zf:PrmBt W3 B:=(z0.block _ (qac z6.out) (by omega)).trans z6.out;have zr:Below B w W3:=zj.trans (z0.below (by omega) (by omega));have zs:TabK W3 K:=fun t ht=>by
  have e:W3.heap[3]?=W2.heap[3]?:=z0.block _ z4.lt (by omega);rw[← z4 t ht];exact World.cell?_of_block (a:=⟨3,t,none⟩) e
 simp only[List.nil_append,Int.zero_add]at z1 z2;have zu:rest.size<128:=by rw[Lib.size_eq,z1];exact tail128_length _
 have HE:Hid (qdl K H data.data.toList=qcq (qb9 (fun t=>K t) (qb9 (fun t=>K t) (qbI H) data.data.toList) (rest.data.toList++padL 128 16 data.size))):=hid (by
  rw[z1,(full64_append _ _ _ _).1,qdl,← Lib.size_eq])
 generalize zv:qb9 (fun t=>K t) (qbI H) data.data.toList=st at *;have HI:=hid (show (Tryz.prog.info? 181).map (·.size)=some (rc64 [] [] st rest data.size).size from HZ.out.2);have zq:=hid z2;have zp:=hid zf;obtain⟨c0,c1,c2,c3,c4,c5,c6,c7,c8,c9,z8,z9,za,zb⟩:=zf.cells;clear z1 z2 zv z0 z6 z7 zf z4 zj;go_wp2_with (with_reducible refine jlw rfl 181 _ rfl G rfl 181 _ (0,0) _ zq.out underlying181 rfl HI.out ?_);refine (sum64_any K st rest data.size W3 zs zu hd).mono ?_;rintro e W4⟨rfl,zt⟩;clear c0 c1 c2 c3 c4 c5 c6 c7 c8 c9 z8 z9 za zb;go_wp2_with fail;go_ret;exact⟨by rw[HE.out];rfl,by rw[zo.out];exact zr.trans (zt.mono (jll (qac zp.out)))⟩
theorem sum512_any(K H:Nat→Int)(data:ByteArray)(w:World)(hK:TabK w K)(hH:TabH w H)(hd:data.size≤1099511627776):Rt 94 #[.string data] w (.string ⟨(qdl K H data.data.toList).toArray⟩):=by
 unfold Rt;go_enter func94,ntmps94;go_wp2_with fail;refine (parameters512_any _).mono ?_;rintro e W1⟨rfl,z0⟩;go_wp2_with fail;refine (digest64_any K H data W1 (hK.below z0 hK.lt) (hH.below z0 hH.lt) hd).mono ?_;rintro e W2⟨rfl,z1⟩;go_wp2_with fail;go_ret;exact⟨rfl,z0.trans (z1.mono z0.size)⟩
end
section
open Go.RowKit
def kList:List Int:=[4794697086780616226,8158064640168781261,13096744586834688815,16840607885511220156,4131703408338449720,6480981068601479193,10538285296894168987,12329834152419229976,15566598209576043074,1334009975649890238,2608012711638119052,6128411473006802146,8268148722764581231,9286055187155687089,11230858885718282805,13951009754708518548,16472876342353939154,17275323862435702243,1135362057144423861,2597628984639134821,3308224258029322869,5365058923640841347,6679025012923562964,8573033837759648693,10970295158949994411,12119686244451234320,12683024718118986047,13788192230050041572,14330467153632333762,15395433587784984357,489312712824947311,1452737877330783856,2861767655752347644,3322285676063803686,5560940570517711597,5996557281743188959,7280758554555802590,8532644243296465576,9350256976987008742,10552545826968843579,11727347734174303076,12113106623233404929,14000437183269869457,14369950271660146224,15101387698204529176,15463397548674623760,17586052441742319658,1182934255886127544,1847814050463011016,2177327727835720531,2830643537854262169,3796741975233480872,4115178125766777443,5681478168544905931,6601373596472566643,7507060721942968483,8399075790359081724,8693463985226723168,9568029438360202098,10144078919501101548,10430055236837252648,11840083180663258601,13761210420658862357,14299343276471374635,14566680578165727644,15097957966210449927,16922976911328602910,17689382322260857208,500013540394364858,748580250866718886,1242879168328830382,1977374033974150939,2944078676154940804,3659926193048069267,4368137639120453308,4836135668995329356,5532061633213252278,6448918945643986474,6902733635092675308,7801388544844847127]
def hList:List Int:=[7640891576956012808,13503953896175478587,4354685564936845355,11912009170470909681,5840696475078001361,11170449401992604703,2270897969802886507,6620516959819538809]
def kf(t:Nat):Int:=kList.getD t 0
def hf(t:Nat):Int:=hList.getD t 0
theorem sha256L_length(K H:Nat→Int)(l:List UInt8):(qd3 K H l).length=32:=qcx _
theorem qgx(K H:Nat→Int)(l:List UInt8):(qdl K H l).length=64:=qcg _
theorem begins(l m:List UInt8)(n:Nat)(hl:l.length=n)(h:(l.take 4==m)=true)(hn:4≤n):(((⟨l.toArray⟩:ByteArray).size:Int)==(n:Int))=true∧(4:Int)≤((⟨l.toArray⟩:ByteArray).size:Int)∧(((⟨l.toArray⟩:ByteArray).extract 0 4).toList==m)=true:=by
 have e:(⟨l.toArray⟩:ByteArray).size=n:=by rw[← hl];rfl
 refine⟨by rw[e];simp,by rw[e];omega,?_⟩;rw[Lib.toList_data,Lib.extract_data];simpa using h
end
end Go.Proofs.YteomfleofeeofaaGreatDoor
