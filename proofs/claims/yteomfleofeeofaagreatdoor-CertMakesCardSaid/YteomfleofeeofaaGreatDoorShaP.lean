/- sha.start at words of 32 bits: the initial words, no byte, no length. The table of the initial values lies in its variable; sha.padding with the parameters of Sum256: the byte 128, noughts, and eight bytes of the length in bits. The data has at most 2^40 bytes; (running).sum at words of 32 bits: the digest of what has been written; sha.digest at words of 32 bits, and Sum256: the digest of a text of at most 2^40 bytes; sha.start at words of 64 bits: the initial words, no byte, no length. The table of the initial values lies in its variable; sha.padding with the parameters of Sum512: the byte 128, noughts, and sixteen bytes of the length in bits. The data has at most 2^40 bytes; (running).sum at words of 64 bits: the digest of what has been written; sha.digest at words of 64 bits, and Sum512: the digest of a text of at most 2^40 bytes; The two tables of package sha, as the program's text has them, and the digests of the text abc. -/
import Derived.Test.YteomfleofeeofaaGreatDoorShaB
import Derived.Test.YteomfleofeeofaaGreatDoorShaA
import Derived.Test.YteomfleofeeofaaGreatDoorBase
namespace Go.Proofs.YteomfleofeeofaaGreatDoor
open Go.Lib (hid)
set_option maxRecDepth 100000
set_option linter.unusedSimpArgs false
set_option linter.unusedVariables false
section
open Go.RowKit Go.Sort
def TabH (w:World) (H:Nat→Int):Prop:=∀ t,t<8→w.cell? ⟨1,t,none⟩=some (.int .u64 (H t))
theorem TabH.lt {w:World} {H:Nat→Int} (h:TabH w H):1 < w.heap.size:=block_lt_of_cell (h 0 (by omega))
theorem TabH.below {w w':World} {H:Nat→Int} {B:Nat} (h:TabH w H) (hb:Below B w w') (hB:1 < B):TabH w' H:=fun t ht=>(hb.cell hB).trans (h t ht)
def ofFn (f:Nat→Int):W8:=⟨f 0,f 1,f 2,f 3,f 4,f 5,f 6,f 7⟩
def init32 (H:Nat→Int):W8:=ofFn fun j=>H j / 4294967296%4294967296
end
section
open Go.RowKit Go.Sort
def padL (blk lb n:Nat):List UInt8:=128 :: (List.replicate ((2*blk-(n%blk+1+lb))%blk) 0++be lb (n*8))
theorem pad_set (q:Nat) (l:List UInt8) (v:UInt8):(128 :: (List.replicate (q+1) 0++l)).set (q+1) v=128 :: (List.replicate q 0++v :: l):=by
 rw [List.set_cons_succ,List.replicate_succ',List.append_assoc,List.set_append,if_neg (by simp)]
 simp
theorem pad_pow (n j:Nat) (hn:n≤1099511627776) (h:0<n*8 / 256^j):j<8:=by
 rcases Nat.lt_or_ge j 8 with h' | h'
 ·exact h'
 ·have h1:256^8≤256^j:=Nat.pow_le_pow_right (by omega) h'
  have h2:n*8 / 256^j=0:=Nat.div_eq_of_lt (Nat.lt_of_lt_of_le (by omega:n*8<256^8) h1)
  omega
end
section
open Go.RowKit Go.Sort
def dig32 (s:W8):List UInt8:=(List.range 32).map fun i=>wbyte (s.at (i / 4)) (24-8*(i%4))
theorem dig32_length (s:W8):(dig32 s).length=32:=by simp [dig32]
theorem owns_below {w w':World} {base:Nat} {e:TypeId} {size:Nat} {v:Value} {n:Nat} {xs:List Value} (h:w.ownsRow base e size v n xs) (hb:Below w.heap.size w w'):w'.ownsRow base e size v n xs:=by
 obtain ⟨hl,h | ⟨g,cap,cur,hv,hbase,hg,h1,h2,h3,h4⟩⟩:=h
 ·exact ⟨hl,.inl h⟩
 ·exact ⟨hl,.inr ⟨g,cap,cur,hv,hbase,qaa hb (qab hg) hg,h1,h2,h3,h4⟩⟩
end
section
open Go.RowKit Go.Sort
def sha256L (K H:Nat→Int) (l:List UInt8):List UInt8:=dig32 (full32 (fun t=>K t / 4294967296) (init32 H) (l++padL 64 8 l.length))
end
section
open Go.RowKit Go.Sort
def beg64 (H:Nat→Int) (k:Nat):W8:=ofFn fun j=>if j<k then H j else 0
theorem beg64_set (H:Nat→Int) (k:Nat) (h:k<8) (r:ByteArray) (l:Int):(rc64 [] [] (beg64 H k) r l).setIfInBounds k (.int .u64 (H k))=rc64 [] [] (beg64 H (k+1)) r l:=by
 rcases lt8 h with rfl | rfl | rfl | rfl | rfl | rfl | rfl | rfl <;> rfl
def qbu (H:Nat→Int):W8:=ofFn fun j=>H j
theorem beg64_eight (H:Nat→Int):beg64 H 8=qbu H:=rfl
theorem info10_64:(Tryz.prog.info? 181).map (fun i=>(i.zero,i.size))=some (some (.agg (rc64 [] [] (ofFn fun _=>0) ⟨#[]⟩ 0)),10):=by kernel_rfl
set_option maxHeartbeats 1000000 in
theorem start64_any (H:Nat→Int) (w:World) (hH:TabH w H) :
  Calls Tryz.prog 199 #[qco] w fun e w'=>e=.returned (.agg (rc64 [] [] (qbu H) ⟨#[]⟩ 0))∧Below w.heap.size w w':=by
 have HZ:=hid (zero_of_info info10_64);have hz:=HZ.out.1
 go_enter Tryz.func199,Tryz.ntmps199
 go_wp2_with fail
 have hP:PrmBt (((w.alloc (.cells #[.int .i64 128,.int .i64 80,.int .u64 1,.int .u64 8,.int .u64 7,.int .u64 19,.int .u64 61,.int .u64 6,.int .u64 14,.int .u64 18,.int .u64 41,.int .u64 28,.int .u64 34,.int .u64 39] 95)).alloc (.cells (rc64 [] [] (ofFn fun _=>0) ⟨#[]⟩ 0) 181)).alloc (.cells (rc64 [] [] (ofFn fun _=>0) ⟨#[]⟩ 0) 181)) w.heap.size:=qaj (qaj (qag w _))
 have hR:=qaj (o:=(.cells (rc64 [] [] (ofFn fun _=>0) ⟨#[]⟩ 0) 181)) (qaw w (.cells #[.int .i64 128,.int .i64 80,.int .u64 1,.int .u64 8,.int .u64 7,.int .u64 19,.int .u64 61,.int .u64 6,.int .u64 14,.int .u64 18,.int .u64 41,.int .u64 28,.int .u64 34,.int .u64 39] 95) (.cells (rc64 [] [] (ofFn fun _=>0) ⟨#[]⟩ 0) 181))
 have hA:=qbL w (.cells #[.int .i64 128,.int .i64 80,.int .u64 1,.int .u64 8,.int .u64 7,.int .u64 19,.int .u64 61,.int .u64 6,.int .u64 14,.int .u64 18,.int .u64 41,.int .u64 28,.int .u64 34,.int .u64 39] 95) (.cells (rc64 [] [] (ofFn fun _=>0) ⟨#[]⟩ 0) 181) (.cells (rc64 [] [] (ofFn fun _=>0) ⟨#[]⟩ 0) 181)
 have hB:=qbr w (.cells #[.int .i64 128,.int .i64 80,.int .u64 1,.int .u64 8,.int .u64 7,.int .u64 19,.int .u64 61,.int .u64 6,.int .u64 14,.int .u64 18,.int .u64 41,.int .u64 28,.int .u64 34,.int .u64 39] 95) (.cells (rc64 [] [] (ofFn fun _=>0) ⟨#[]⟩ 0) 181) (.cells (rc64 [] [] (ofFn fun _=>0) ⟨#[]⟩ 0) 181)
 have hT:=hH.below hB hH.lt;have hlow:=hH.lt;generalize (((w.alloc _).alloc _).alloc _)=W at *;generalize hBB:w.heap.size=B at *;have HBB:=hid hBB;have HP:=hid hP;have HR:=hid hR;have HA:=hid hA;clear hBB hP hR hA hH hz
 go_loopw [5] (fun i wr=>∃ k:Nat,k≤8∧i=.int .i64 k∧PrmBt wr B∧wr.heap[B+1]?=some (.cells (rc64 [] [] (ofFn fun _=>0) ⟨#[]⟩ 0) 181)∧wr.heap[B+1+1]?=some (.cells (rc64 [] [] (beg64 H k) ⟨#[]⟩ 0) 181)∧TabH wr H∧Below B w wr) (fun i _=>8-(intOf i).toNat)
 case atStart=>exact ⟨0,by omega,rfl,HP.out,HR.out,HA.out,hT,hB⟩
 case round=>
  clear HP HR HA hT hB;obtain ⟨k,hk,rfl,hp,hr,ha,ht,hb⟩:=hrel;have HP:=hid hp;have HR:=hid hr;have HA:=hid ha;clear hp hr ha
  by_cases hk8:k<8
  ·have hd:decide ((k:Int)<8)=true:=by simp;omega
   go_wp2_with fail
   obtain ⟨c0,c1,c2,c3,c4,c5,c6,c7,c8,c9,c10,c11,c12,c13⟩:=HP.out.cells;have k0:=cell_regrown c0;have k1:=cell_regrown c1;have k2:=cell_regrown c2;have k3:=cell_regrown c3;have k4:=cell_regrown c4;have k5:=cell_regrown c5;have k6:=cell_regrown c6;have k7:=cell_regrown c7;have k8:=cell_regrown c8;have k9:=cell_regrown c9;have k10:=cell_regrown c10;have k11:=cell_regrown c11;have k12:=cell_regrown c12;have k13:=cell_regrown c13;have kh:=cell_regrown (ht k hk8)
   refine qap 9 (by kernel_rfl) (by kernel_rfl) ?_
   simp only [List.take_succ_cons,List.take_zero,List.drop_succ_cons,List.drop_zero]
   repeat (first | go_big_quiet_step ((go_at_call 194;exact Calls.regrown_of (unused512 _))) | quiet_step ((go_at_call 194;exact Calls.regrown_of (unused512 _))))
   refine wpQuiet_nil ?_
   intro W1 hb1;clear k0 k1 k2 k3 k4 k5 k6 k7 k8 k9 k10 k11 k12 k13 c0 c1 c2 c3 c4 c5 c6 c7 c8 c9 c10 c11 c12 c13 kh;have hA1:=qaa hb1 (qab HA.out) HA.out;have hR1:=qaa hb1 (qab HR.out) HR.out;have hP1:=HP.out.below hb1 (qab HP.out);have ht1:=ht.below hb1 ht.lt;have hB1:Below B w W1:=hb.trans (hb1.mono (Nat.le_of_lt (qab HP.out)))
   have ck:∃ y,W1.cell? ⟨B+1+1,k,none⟩=some (.int .u64 y):=by
    have:=qfZ [] [] (beg64 H k) ⟨#[]⟩ 0 k hk8
    exact ⟨_,by rw [cell_of_row W1 _ _ _ _ _ hA1];simpa using this⟩
   obtain ⟨y,ck⟩:=ck;have fk:W1.frozen? ⟨B+1+1,k,none⟩=false:=frozen_of_row W1 _ _ _ _ hA1;replace HA:=hid hA1;replace HP:=hid hP1;replace HR:=hid hR1;clear hA1 hP1 hR1 ht hb hb1
   go_wp2_with fail
   go_roundw
   case rel=>
    refine ⟨k+1,by omega,by go_num,?_,?_,?_,?_,hB1.setCell (by simp;omega) _⟩
    ·exact (heap_setCell_other _ _ _ _ (by simp;omega)).trans HP.out
    ·exact (heap_setCell_other _ _ _ _ (by simp)).trans HR.out
    ·rw [← beg64_set _ _ hk8];exact heap_setCell_same _ _ _ _ _ _ HA.out
    ·exact fun t htt=>(World.cell?_setCell_far _ _ _ _ (by first | (simp;done) | (simp;omega))).trans (ht1 t htt)
   case measure=>simp [intOf];omega
  ·have hd:decide ((k:Int)<8)=false:=by simp;omega
   obtain rfl:k=8:=by omega
   rw [beg64_eight] at HA
   have HI:=hid (show (Tryz.prog.info? 181).map (·.size)=some (rc64 [] [] (qbu H) ⟨#[]⟩ 0).size from HZ.out.2)
   have HO:=hid (show (rc64 [] [] (ofFn fun _=>0) ⟨#[]⟩ 0).size=(rc64 [] [] (qbu H) ⟨#[]⟩ 0).size from rfl)
   have H1:=hid (show (rc64 [] [] (qbu H) ⟨#[]⟩ 0).all (·.oneCell')=true from by simp [rc64,Value.oneCell'])
   go_wp2_with (first
    | (with_reducible refine wpList_load_row rfl 181 _ rfl (B+1+1) rfl 181 _ (0,0) _ HA.out Tryz.underlying181 rfl HI.out ?_)
    | (with_reducible refine wpList_store_row rfl 181 _ _ rfl (B+1) (rc64 [] [] (qbu H) ⟨#[]⟩ 0) rfl rfl 181 _ HR.out HI.out HO.out H1.out ?_))
   exact bodyPost_ret (v:=.agg (rc64 [] [] (qbu H) ⟨#[]⟩ 0)) (results_cell_row (by rfl) _ _ (B+1) 181 _ (0,0) _ rfl (setRow_heap _ _ _ _ _ _ HR.out) Tryz.underlying181 rfl HI.out) rfl ⟨rfl,by rw [HBB.out];exact below_setRow hb (by omega) _⟩
end
section
open Go.RowKit Go.Sort
set_option maxHeartbeats 1000000 in
theorem padding512_any (n:Nat) (w:World) (hn:n≤1099511627776) :
  Calls Tryz.prog 196 #[qco,.int .u64 (n:Int)] w fun e w'=>e=.returned (.string ⟨(padL 128 16 n).toArray⟩)∧Below w.heap.size w w':=by
 have hP:PrmBt (w.alloc (.cells #[.int .i64 128,.int .i64 80,.int .u64 1,.int .u64 8,.int .u64 7,.int .u64 19,.int .u64 61,.int .u64 6,.int .u64 14,.int .u64 18,.int .u64 41,.int .u64 28,.int .u64 34,.int .u64 39] 95)) w.heap.size:=qag w _;have hB:=qah w (.cells #[.int .i64 128,.int .i64 80,.int .u64 1,.int .u64 8,.int .u64 7,.int .u64 19,.int .u64 61,.int .u64 6,.int .u64 14,.int .u64 18,.int .u64 41,.int .u64 28,.int .u64 34,.int .u64 39] 95)
 go_enter Tryz.func196,Tryz.ntmps196
 go_wp2_with fail
 generalize (w.alloc _)=W at *;generalize hBB:w.heap.size=B at *;have HBB:=hid hBB;have HP:=hid hP;clear hBB hP
 ·obtain ⟨c0,c1,c2,c3,c4,c5,c6,c7,c8,c9,c10,c11,c12,c13⟩:=HP.out.cells
  have k0:=cell_regrown c0;have k1:=cell_regrown c1;have k2:=cell_regrown c2;have k3:=cell_regrown c3;have k4:=cell_regrown c4;have k5:=cell_regrown c5;have k6:=cell_regrown c6;have k7:=cell_regrown c7;have k8:=cell_regrown c8;have k9:=cell_regrown c9;have k10:=cell_regrown c10;have k11:=cell_regrown c11;have k12:=cell_regrown c12;have k13:=cell_regrown c13
  have hm0:(0:Int)≤(n:Int)%128:=by omega
  have hm1:(n:Int)%128<128:=by omega
  refine qaE (by kernel_rfl) (by kernel_rfl) ?_
  repeat (first | go_big_quiet_step ((go_at_call 221;exact Calls.regrown_of (qek _))) | quiet_step ((go_at_call 221;exact Calls.regrown_of (qek _))))
  refine wpQuiet_nil ?_
  intro W1 hb1;have hB1:Below B w W1:=hB.trans (hb1.mono (Nat.le_of_lt (qab HP.out)));replace HP:=hid (HP.out.below hb1 (qab HP.out));clear k0 k1 k2 k3 k4 k5 k6 k7 k8 k9 k10 k11 k12 k13 c0 c1 c2 c3 c4 c5 c6 c7 c8 c9 c10 c11 c12 c13 hb1 hB;obtain ⟨c0,c1,c2,c3,c4,c5,c6,c7,c8,c9,c10,c11,c12,c13⟩:=HP.out.cells
  go_wp2_with fail
  obtain ⟨z,hz⟩:∃ z:Nat,((256:Int)-((n:Int)%128+1+16))%128=(z:Int):=⟨((256-(n%128+1+16))%128:Nat),by omega⟩
  have HZ:=hid (show (2*128-(n%128+1+16))%128=z from by omega)
  have hz64:z<128:=by omega
  rw [hz];clear hz hm0 hm1
  refine (qek _).mono ?_
  rintro e W2 ⟨rfl,hb2⟩;have hB2:Below B w W2:=hB1.trans (hb2.mono (Nat.le_of_lt (qab HP.out)));have hBl:B<W2.heap.size:=Nat.lt_of_lt_of_le (qab HP.out) hb2.size;clear hb2 hB1 HP c0 c1 c2 c3 c4 c5 c6 c7 c8 c9 c10 c11 c12 c13;obtain ⟨i0,hi,hz0,hz1,hz2⟩:=info_parts qcz
  have hmk:∀ W:World,(Instr.makeSlice 41 (.int .i64 (1+(z:Int)+16)) (.int .i64 (1+(z:Int)+16))).run Tryz.prog W=.ok (.slice (some ⟨W.heap.size,0,none⟩) (z+17) (z+17)) (W.alloc (.cells (qaZ (List.replicate (z+17) 0)) 5)):=fun W=>by
   have h:=run_make (P:=Tryz.prog) W 41 5 i0 (.int .u8 0) Tryz.underlying41 hi hz0 .i64 .i64 (1+(z:Int)+16) (1+(z:Int)+16) (by omega) (by omega) (by rw [hz2];omega) (by omega)
   rw [hz1,made_zero,show (1+(z:Int)+16).toNat=z+17 by omega,Nat.mul_one] at h
   simpa using h
  clear hi hz0 hz1 hz2
  have hc0:∀ W:World,(W.alloc (.cells (qaZ (List.replicate (z+17) 0)) 5)).cell? ⟨W.heap.size,0,none⟩=some (.int .u8 0):=fun W=>by
   rw [cell_of_row _ _ _ _ _ _ (qag W _)];exact qfU _ _ 0 (by simp)
  have hf0:∀ W:World,(W.alloc (.cells (qaZ (List.replicate (z+17) 0)) 5)).frozen? ⟨W.heap.size,0,none⟩=false:=fun W=>frozen_of_row _ _ _ _ _ (qag W _)
  have hG:(W2.alloc (.cells ((qaZ (List.replicate (z+17) 0)).setIfInBounds 0 (.int .u8 128)) 5)).heap[W2.heap.size]?=some (.cells (qaZ (128 :: (List.replicate (z+16) 0++be 0 (n*8)))) 5):=by
   rw [qag,show (Value.int .u8 128)=.int .u8 ((128:UInt8).toNat) from rfl,qfV,List.replicate_succ]
   simp [be]
  have HG:=hid hG;have hB3:Below B w (W2.alloc (.cells ((qaZ (List.replicate (z+17) 0)).setIfInBounds 0 (.int .u8 128)) 5)):=hB2.alloc (Nat.le_of_lt hBl) _;clear hG
  go_wp2_with fail
  generalize (W2.alloc _)=W3 at *;generalize W2.heap.size=G at *;clear hmk hc0 hf0
  go_loopw [8,9] (fun x i wr=>∃ j q:Nat,j+q=z+16∧j≤8∧x=.int .u64 ((n*8 / 256^j:Nat):Int)∧i=.int .i64 (q:Int)∧wr.heap[G]?=some (.cells (qaZ (128 :: (List.replicate q 0++be j (n*8)))) 5)∧Below B w wr) (fun _ i _=>(intOf i).toNat)
  case atStart=>exact ⟨0,z+16,by omega,by omega,by simp,by go_num,HG.out,hB3⟩
  case round=>
   obtain ⟨j,q,hjq,hj8,rfl,rfl,hg,hb⟩:=hrel;clear HG hB3 hB2;have hjq':=hid hjq
   have hq:q≤z+16:=by omega
   by_cases hpos:0<n*8 / 256^j
   ·have hj:=pad_pow n j hn hpos
    obtain ⟨q,rfl⟩:∃ q',q=q'+1:=⟨q-1,by omega⟩
    have hx:n*8 / 256^j≤n*8:=Nat.div_le_self _ _
    have HD:=hid (show n*8 / 256^(j+1)=n*8 / 256^j / 256 from by rw [Nat.pow_succ,Nat.div_div_eq_div_mul])
    have HS:Hid (be (j+1) (n*8)=UInt8.ofNat (n*8 / 256^j) :: be j (n*8)):=hid rfl
    have hlen:(128 :: (List.replicate (q+1) 0++be j (n*8))).length=q+1+1+j:=by simp [qcU];omega
    have cq:∃ y,wr.cell? ⟨G,q+1,none⟩=some (.int .u8 y):=by
     have hlt:q+1<(128 :: (List.replicate (q+1) 0++be j (n*8))).length:=by omega
     exact ⟨_,qch hg (q+1) _ (List.getElem?_eq_getElem hlt)⟩
    obtain ⟨y,cq⟩:=cq;have fq:wr.frozen? ⟨G,q+1,none⟩=false:=frozen_of_row wr _ _ _ _ hg;have HGr:=hid hg;clear hg hlen hjq;generalize n*8 / 256^j=x at *
    have hdd:decide ((0:Int)<(x:Int))=true:=by simp;omega
    have hqz:(q:Int)+1<(z:Int)+17:=by omega
    go_wp2_with fail
    go_roundw
    case rel=>
     refine ⟨j+1,q,by have:=hjq'.out;omega,by omega,by rw [HD.out];simp,by go_num,?_,?_⟩
     ·rw [HS.out,← pad_set,← qfV]
      have e:(UInt8.ofNat x).toNat=x%256:=by simp
      rw [e]
      refine Eq.trans (heap_setCell_same _ _ _ _ _ _ HGr.out) ?_
      simp
     ·exact hb.setCell (Nat.le_of_lt hBl) _
    case measure=>simp [intOf]
   ·have hlead:=be_lead (n*8) j (Nat.eq_zero_of_not_pos hpos) (16-j)
    have hlen:(128 :: (List.replicate q 0++be j (n*8))).length=z+17:=by simp [qcU];omega
    have hcv:=qbl wr G (z+17) _ (qch hg);rw [hlen] at hcv
    have HE:Hid (128 :: (List.replicate q 0++be j (n*8))=padL 128 16 n):=hid (by
     rw [show j+(16-j)=16 by omega] at hlead
     rw [padL,HZ.out,hlead,← List.append_assoc,List.replicate_append_replicate,show z+(16-j)=q by omega])
    clear hg hlen hlead;generalize n*8 / 256^j=x at *
    have hdd:decide ((0:Int)<(x:Int))=false:=by simp;omega
    generalize 128 :: (List.replicate q 0++be j (n*8))=L at *
    go_wp2_with fail
    go_ret
    exact ⟨by rw [← HE.out];rfl,by rw [HBB.out];exact hb⟩
end
section
open Go.RowKit Go.Sort
def qb6 (s:W8):List UInt8:=(List.range 64).map fun i=>wbyte (s.at (i / 8)) (56-8*(i%8))
theorem qb0 (s:W8):(qb6 s).length=64:=by simp [qb6]
theorem dig64_snoc (s:W8) (k m:Nat) (hk:k<8) (hm:m<8):(qb6 s).take (8*k+m+1)=(qb6 s).take (8*k+m)++[wbyte (s.at k) (56-8*m)]:=by
 rw [List.take_succ_eq_append_getElem (by rw [qb0];omega)]
 have h1:(8*k+m) / 8=k:=by omega
 have h2:(8*k+m)%8=m:=by omega
 simp [qb6,h1,h2]
def qem:Array Value:=qaZ (List.replicate 64 0)
set_option maxHeartbeats 1000000 in
set_option maxRecDepth 100000 in
theorem sum64_any (K:Nat→Int) (st:W8) (rest:ByteArray) (n:Nat) (w:World) (hK:TabK w K) (hr:rest.size<128) (hn:n≤1099511627776) :
  Calls Tryz.prog 201 #[.agg (rc64 [] [] st rest n),qco] w fun e w'=>e=.returned (.string ⟨(qb6 (qbU (fun t=>K t) st (rest.data.toList++padL 128 16 n))).toArray⟩)∧Below w.heap.size w w':=by
 go_enter Tryz.func201,Tryz.ntmps201
 go_wp2_with fail
 have hP:PrmBt ((w.alloc (.cells (rc64 [] [] st rest n) 181)).alloc (.cells #[.int .i64 128,.int .i64 80,.int .u64 1,.int .u64 8,.int .u64 7,.int .u64 19,.int .u64 61,.int .u64 6,.int .u64 14,.int .u64 18,.int .u64 41,.int .u64 28,.int .u64 34,.int .u64 39] 95)) (w.heap.size+1):=qaw w _ _;have hR:=qaj (o:=(.cells #[.int .i64 128,.int .i64 80,.int .u64 1,.int .u64 8,.int .u64 7,.int .u64 19,.int .u64 61,.int .u64 6,.int .u64 14,.int .u64 18,.int .u64 41,.int .u64 28,.int .u64 34,.int .u64 39] 95)) (qag w (.cells (rc64 [] [] st rest n) 181));have hB:=qaP w (.cells (rc64 [] [] st rest n) 181) (.cells #[.int .i64 128,.int .i64 80,.int .u64 1,.int .u64 8,.int .u64 7,.int .u64 19,.int .u64 61,.int .u64 6,.int .u64 14,.int .u64 18,.int .u64 41,.int .u64 28,.int .u64 34,.int .u64 39] 95);have hT:=hK.below hB hK.lt;have hlow:=hK.lt;generalize ((w.alloc _).alloc _)=W at *;generalize hBB:w.heap.size=B at *;have HBB:=hid hBB;have HP:=hid hP;have HR:=hid hR
 have cl:W.cell? ⟨B,9,none⟩=some (.int .u64 (n:Int)):=by
  rw [cell_of_row W _ _ _ _ _ hR];exact rc64_len [] [] st rest n
 clear hBB hP hR hK;obtain ⟨c0,c1,c2,c3,c4,c5,c6,c7,c8,c9,c10,c11,c12,c13⟩:=HP.out.cells;have k0:=cell_regrown c0;have k1:=cell_regrown c1;have k2:=cell_regrown c2;have k3:=cell_regrown c3;have k4:=cell_regrown c4;have k5:=cell_regrown c5;have k6:=cell_regrown c6;have k7:=cell_regrown c7;have k8:=cell_regrown c8;have k9:=cell_regrown c9;have k10:=cell_regrown c10;have k11:=cell_regrown c11;have k12:=cell_regrown c12;have k13:=cell_regrown c13;have kl:=cell_regrown cl
 refine qap 5 (by kernel_rfl) (by kernel_rfl) ?_
 simp only [List.take_succ_cons,List.take_zero,List.drop_succ_cons,List.drop_zero]
 repeat (quiet_step ((go_at_call 196;exact Calls.regrown_of (padding512_any n _ hn))))
 refine wpQuiet_nil ?_
 intro W1 hb1;clear k0 k1 k2 k3 k4 k5 k6 k7 k8 k9 k10 k11 k12 k13 c0 c1 c2 c3 c4 c5 c6 c7 c8 c9 c10 c11 c12 c13 kl cl
 have hpl:(⟨(padL 128 16 n).toArray⟩:ByteArray).size≤1099511627776:=by
  have:((2*128-(n%128+1+16))%128)<128:=Nat.mod_lt _ (by omega)
  show (padL 128 16 n).toArray.size≤_
  simp [padL,qcU];omega
 go_wp2_with fail
 refine (write64_any K B 181 [] [] st rest ⟨(padL 128 16 n).toArray⟩ n W1 (qaa hb1 (qab HR.out) HR.out) (hT.below hb1 hT.lt) (by omega) hr hpl (by omega) (by omega)).mono ?_
 rintro e W2 ⟨rfl,rest2,hrest2,hrun2,hbut⟩
 have hP2:PrmBt W2 (B+1):=(hbut.block _ (Nat.lt_of_lt_of_le (qab HP.out) hb1.size) (by omega)).trans (HP.out.below hb1 (qab HP.out))
 have hB2:Below B w W2:=(hB.trans (hb1.mono (Nat.le_of_lt (qab HR.out)))).trans (hbut.below (Nat.le_refl _) (Nat.le_trans (Nat.le_of_lt (qab HR.out)) hb1.size));replace HP:=hid hP2;clear HR hT hb1 hrest2 hbut hP2 hB hpl
 generalize hOut:qbU (fun t=>K t) st (rest.data.toList++padL 128 16 n)=out at *
 have HOut:=hid hOut;clear hOut;generalize (n:Int)+((⟨(padL 128 16 n).toArray⟩:ByteArray).size:Int)=ln at *;have HW:=hid hrun2;clear hrun2;obtain ⟨c0,c1,c2,c3,c4,c5,c6,c7,c8,c9,c10,c11,c12,c13⟩:=HP.out.cells
 go_wp2_with fail
 refine (wordBytes512 _).mono ?_
 rintro e W3 ⟨rfl,hb3⟩;clear c0 c1 c2 c3 c4 c5 c6 c7 c8 c9 c10 c11 c12 c13;have hW3:=qaa hb3 (qab HW.out) HW.out;have hP3:=HP.out.below hb3 (qab HP.out);have hB3:Below B w W3:=hB2.trans (hb3.mono (Nat.le_of_lt (qab HW.out)));have hlt3:=qab hP3;obtain ⟨i0,hi,hz0,hz1,hz2⟩:=info_parts qcz
 have hmk:∀ W:World,(Instr.makeSlice 41 (.int .i64 0) (.int .i64 64)).run Tryz.prog W=.ok (.slice (some ⟨W.heap.size,0,none⟩) 0 64) (W.alloc (.cells qem 5)):=fun W=>by
  have h:=run_make (P:=Tryz.prog) W 41 5 i0 (.int .u8 0) Tryz.underlying41 hi hz0 .i64 .i64 0 64 (by omega) (by omega) (by rw [hz2];omega) (by omega)
  rw [hz1,made_zero] at h;exact h
 have hW4:(W3.alloc (.cells qem 5)).heap[B]?=_:=qaj hW3
 have m:∀ j,j<8→(W3.alloc (.cells qem 5)).cell? ⟨B,j,none⟩=some (.int .u64 (out.at j)):=fun j hj=>by
  rw [cell_of_row _ _ _ _ _ _ hW4];simpa using qfZ [] [] out rest2 ln j hj
 have m0:=m 0 (by omega);have m1:=m 1 (by omega);have m2:=m 2 (by omega);have m3:=m 3 (by omega);have m4:=m 4 (by omega);have m5:=m 5 (by omega);have m6:=m 6 (by omega);have m7:=m 7 (by omega)
 simp only [W8.at] at m0 m1 m2 m3 m4 m5 m6 m7
 have hP4:PrmBt (W3.alloc (.cells qem 5)) (B+1):=qaj hP3
 have hB4:Below B w (W3.alloc (.cells qem 5)):=hB3.alloc (by omega) _
 have hO4:(W3.alloc (.cells qem 5)).ownsRow B 5 1 (.slice (some ⟨W3.heap.size,0,none⟩) 0 64) 0 (Lib.byteCells ((qb6 out).take 0)):=
  ⟨rfl,.inr ⟨W3.heap.size,64,_,rfl,by omega,qag W3 _,by omega,by unfold maxLen;omega,by rw [qem,bcells_size];simp,rfl⟩⟩
 have HO4:=hid hO4;have HP4:=hid hP4;clear hW3 hP3 hB3 hW4 m HP HW hB2 hb3 hO4 hP4
 go_wp2_with fail
 clear m0 m1 m2 m3 m4 m5 m6 m7 hmk;have hBG:B+1<W3.heap.size:=hlt3;generalize (W3.alloc _)=W4 at *;generalize W3.heap.size=G at *
 go_loopw [5,21] (fun o i wr=>∃ k:Nat,k≤8∧i=.int .i64 k∧o=.slice (some ⟨G,0,none⟩) (8*k) 64∧wr.ownsRow B 5 1 (.slice (some ⟨G,0,none⟩) (8*k) 64) (8*k) (Lib.byteCells ((qb6 out).take (8*k)))∧PrmBt wr (B+1)∧Below B w wr) (fun _ i _=>8-(intOf i).toNat)
 case atStart=>exact ⟨0,by omega,rfl,rfl,HO4.out,HP4.out,hB4⟩
 case round=>
  clear HO4 HP4 hB4;obtain ⟨k,hk,rfl,rfl,hown,hp,hb⟩:=hrel;have HP:=hid hp;have HOwn:=hid hown;clear hp hown
  by_cases hk8:k<8
  ·have hd:decide ((k:Int)<8)=true:=by simp;omega
   have hix:∀ w,(Instr.index 175 (.agg #[.int .u64 out.a,.int .u64 out.b,.int .u64 out.c,.int .u64 out.d,.int .u64 out.e,.int .u64 out.f,.int .u64 out.g,.int .u64 out.h]) (.int .i64 (k:Int))).run Tryz.prog w=.ok (.int .u64 (out.at k)) w:=fun w=>index8_64 out w k hk8
   obtain ⟨c0,c1,c2,c3,c4,c5,c6,c7,c8,c9,c10,c11,c12,c13⟩:=HP.out.cells
   go_wp2_with fail
   refine (qew _).mono ?_
   rintro e W5 ⟨rfl,hb5⟩;clear c0 c1 c2 c3 c4 c5 c6 c7 c8 c9 c10 c11 c12 c13
   go_wp2_with fail
   have hown5:=owns_below HOwn.out hb5;have hp5:=HP.out.below hb5 (qab HP.out)
   have hb6:Below B w W5:=hb.trans (hb5.mono (by have:=qab HP.out;omega))
   clear HOwn HP hb hb5
   go_loopw [5,8] (fun o sh wr=>∃ m s:Nat,m≤8∧s+8*m=64∧sh=.int .u64 (s:Int)∧o=.slice (some ⟨G,0,none⟩) (8*k+m) 64∧wr.ownsRow B 5 1 (.slice (some ⟨G,0,none⟩) (8*k+m) 64) (8*k+m) (Lib.byteCells ((qb6 out).take (8*k+m)))∧PrmBt wr (B+1)∧Below B w wr) (fun _ sh _=>(intOf sh).toNat)
   case atStart=>exact ⟨0,64,by omega,by omega,rfl,rfl,hown5,hp5,hb6⟩
   case round=>
    clear hown5 hp5 hb6 hix hd;obtain ⟨m,s,hm,hs,rfl,rfl,hown,hp,hb⟩:=hrel;have HP:=hid hp;clear hp
    by_cases hm4:m<8
    ·have hd:decide ((0:Int)<(s:Int))=true:=by simp;omega
     have hs8:(8:Int)≤(s:Int):=by omega
     have hs32:(s:Int)≤64:=by omega
     have hcap:8*k+m+1≤64:=by omega
     have HSn:=hid (dig64_snoc out k m hk8 hm4)
     have HS8:=hid (show s-8=56-8*m from by omega)
     have HW:=hid (wbyte_toNat (out.at k) (s-8));have HOwn:=hid hown;have HSM:=hid hs;clear hown hs;generalize out.at k=v at *
     go_wp2_with (at_builtin;refine wpList_append_fits _ rfl (.tmp 30) (.tmp 35) 41 rfl B 5 i0 1 Tryz.underlying41 hi hz1 G (8*k+m) 64 _ rfl (HOwn.out.alloc _) ⟨wr.heap.size,0,none⟩ 1 1 [.int .u8 (v / 2^(s-8)%256)] rfl rfl ?c1 ?c2 ?c3 ?_)
     case c1=>
      intro j u hj
      match j,hj with
      | 0,hj=>simp at hj;subst hj;simp [Addr.add]
     case c2=>intro u hu;simp at hu;subst hu;rfl
     case c3=>exact hcap
     ·intro W6 hown6 hgrow
      have hown7:W6.ownsRow B 5 1 (.slice (some ⟨G,0,none⟩) (8*k+(m+1)) 64) (8*k+(m+1)) (Lib.byteCells ((qb6 out).take (8*k+(m+1)))):=by
       rw [← Nat.add_assoc,HSn.out,Lib.byteCells_append,← HS8.out]
       have e:Lib.byteCells [wbyte v (s-8)]=[.int .u8 (v / 2^(s-8)%256)]:=by simp [Lib.byteCells,HW.out]
       rw [e];exact hown6
      have hpl:=qab HP.out
      have hp7:PrmBt W6 (B+1):=(hgrow.block _ (by simp;omega) (by simp;omega)).trans (qaj HP.out)
      have hb7:Below B w W6:=(hb.alloc (by omega) _).grown hgrow (by simp;omega) (by intro k hk;simp at hk;omega)
      clear hown6 hgrow HOwn HP hb
      go_wp2_with fail
      go_roundw
      case rel=>exact ⟨m+1,s-8,by omega,by have:=HSM.out;omega,by go_num,rfl,hown7,hp7,hb7⟩
      case measure=>simp [intOf];omega
    ·have hd:decide ((0:Int)<(s:Int))=false:=by simp;omega
     obtain rfl:m=8:=by omega
     go_wp2_with fail
     go_roundw
     case rel=>exact ⟨k+1,by omega,by go_num,by rw [Nat.mul_succ],hown,HP.out,hb⟩
     case measure=>simp [intOf];omega
  ·have hd:decide ((k:Int)<8)=false:=by simp;omega
   obtain rfl:k=8:=by omega
   have hcv:=qbl wr G 64 (qb6 out) (fun j x hx=>by
    have hj:j<64:=by
     have:=(List.getElem?_eq_some_iff.1 hx).1
     rwa [qb0] at this
    rw [HOwn.out.cellAt j (by omega),List.take_of_length_le (by rw [qb0];omega)]
    simp [Lib.byteCells,hx])
   rw [qb0] at hcv
   go_wp2_with fail
   go_ret
   exact ⟨by rw [HOut.out];rfl,by rw [HBB.out];exact hb⟩
end
section
open Go.RowKit Go.Sort
def qck (K H:Nat→Int) (l:List UInt8):List UInt8:=qb6 (qbU (fun t=>K t) (qbu H) (l++padL 128 16 l.length))
theorem full64_append (K:Nat→Int) (st:W8) (l m:List UInt8):qbU K (qbU K st l) (qb3 l++m)=qbU K st (l++m)∧qb3 (qb3 l++m)=qb3 (l++m):=by
 induction h:l.length / 128 generalizing st l with
 | zero=>
  have hs:=qd0 K st l (by omega)
  rw [hs.1,hs.2];exact ⟨rfl,rfl⟩
 | succ k ih=>
  have hl:128≤l.length:=by omega
  have h1:=qdF K st l hl
  have h2:=qdF K st (l++m) (by rw [List.length_append];omega)
  have e1:(l++m).take 128=l.take 128:=by rw [List.take_append,show 128-l.length=0 by omega];simp
  have e2:(l++m).drop 128=l.drop 128++m:=by rw [List.drop_append,show 128-l.length=0 by omega];simp
  have:=ih (qdn K st (l.take 128)) (l.drop 128) (by rw [List.length_drop];omega)
  rw [h1.1,h1.2,h2.1,h2.2,e1,e2];exact this
set_option maxHeartbeats 1000000 in
set_option maxRecDepth 100000 in
theorem digest64_any (K H:Nat→Int) (data:ByteArray) (w:World) (hK:TabK w K) (hH:TabH w H) (hd:data.size≤1099511627776) :
  Calls Tryz.prog 155 #[qco,.string data] w fun e w'=>e=.returned (.string ⟨(qck K H data.data.toList).toArray⟩)∧Below w.heap.size w w':=by
 have hP0:PrmBt (w.alloc (.cells #[.int .i64 128,.int .i64 80,.int .u64 1,.int .u64 8,.int .u64 7,.int .u64 19,.int .u64 61,.int .u64 6,.int .u64 14,.int .u64 18,.int .u64 41,.int .u64 28,.int .u64 34,.int .u64 39] 95)) w.heap.size:=qag w _;have hB0:=qah w (.cells #[.int .i64 128,.int .i64 80,.int .u64 1,.int .u64 8,.int .u64 7,.int .u64 19,.int .u64 61,.int .u64 6,.int .u64 14,.int .u64 18,.int .u64 41,.int .u64 28,.int .u64 34,.int .u64 39] 95);have hT0:=hK.below hB0 hK.lt;have hU0:=hH.below hB0 hH.lt;have HZ:=hid (zero_of_info info10_64);have hlow:=hK.lt
 go_enter Tryz.func155,Tryz.ntmps155
 go_wp2_with fail
 generalize (w.alloc _)=W at *;generalize hBB:w.heap.size=B at *;have HBB:=hid hBB;have HP:=hid hP0;clear hBB hP0 hK hH
 refine (start64_any H _ hU0).mono ?_
 rintro e W1 ⟨rfl,hb1⟩;have hP1:=HP.out.below hb1 (qab HP.out);have hT1:=hT0.below hb1 hT0.lt;have hB1:Below B w W1:=hB0.trans (hb1.mono (Nat.le_of_lt (qab HP.out)));have hl1:B<W1.heap.size:=qab hP1;have hz:=HZ.out.1
 have HI:=hid (show (Tryz.prog.info? 181).map (·.size)=some (rc64 [] [] (qbu H) ⟨#[]⟩ 0).size from HZ.out.2)
 have HO:=hid (show (rc64 [] [] (ofFn fun _=>0) ⟨#[]⟩ 0).size=(rc64 [] [] (qbu H) ⟨#[]⟩ 0).size from rfl)
 have H1:=hid (show (rc64 [] [] (qbu H) ⟨#[]⟩ 0).all (·.oneCell')=true from by simp [rc64,Value.oneCell'])
 have HG:=hid (qag W1 (.cells (rc64 [] [] (ofFn fun _=>0) ⟨#[]⟩ 0) 181))
 have hR2:=setRow_heap (W1.alloc (.cells (rc64 [] [] (ofFn fun _=>0) ⟨#[]⟩ 0) 181)) W1.heap.size _ (rc64 [] [] (qbu H) ⟨#[]⟩ 0) _ _ HG.out
 have hP2:PrmBt ((W1.alloc (.cells (rc64 [] [] (ofFn fun _=>0) ⟨#[]⟩ 0) 181)).setRow W1.heap.size (rc64 [] [] (qbu H) ⟨#[]⟩ 0)) B:=(setRow_other _ _ _ _ (by omega)).trans (qaj hP1)
 have hB2:Below W1.heap.size W1 ((W1.alloc (.cells (rc64 [] [] (ofFn fun _=>0) ⟨#[]⟩ 0) 181)).setRow W1.heap.size (rc64 [] [] (qbu H) ⟨#[]⟩ 0)):=below_setRow (qah W1 _) (Nat.le_refl _) _
 have hT2:=hT1.below hB2 hT1.lt
 have hB3:Below B w ((W1.alloc (.cells (rc64 [] [] (ofFn fun _=>0) ⟨#[]⟩ 0) 181)).setRow W1.heap.size (rc64 [] [] (qbu H) ⟨#[]⟩ 0)):=hB1.trans (hB2.mono (by omega))
 obtain ⟨c0,c1,c2,c3,c4,c5,c6,c7,c8,c9,c10,c11,c12,c13⟩:=hP2.cells;have HP2:=hid hP2;have HR2:=hid hR2;clear HP hP1 hT1 hB1 hB0 hT0 hU0 hb1 hP2 hR2 hB2
 go_wp2_with (with_reducible refine wpList_store_row rfl 181 _ _ rfl W1.heap.size (rc64 [] [] (qbu H) ⟨#[]⟩ 0) rfl rfl 181 _ HG.out HI.out HO.out H1.out ?_)
 clear HI HO H1 HG hz c0 c1 c2 c3 c4 c5 c6 c7 c8 c9 c10 c11 c12 c13;generalize (W1.alloc _).setRow _ _=W2 at *;have hl2:=qab HR2.out;generalize W1.heap.size=G at *
 refine (write64_any K G 181 [] [] (qbu H) ⟨#[]⟩ data 0 W2 HR2.out hT2 (by omega) (by decide) hd (by omega) (by omega)).mono ?_
 rintro e W3 ⟨rfl,rest,hrest,hrun3,hbut3⟩
 have hP3:PrmBt W3 B:=(hbut3.block _ (qab HP2.out) (by omega)).trans HP2.out
 have hB4:Below B w W3:=hB3.trans (hbut3.below (by omega) (by omega))
 have hT3:TabK W3 K:=fun t ht=>by
  have e:W3.heap[3]?=W2.heap[3]?:=hbut3.block _ hT2.lt (by omega)
  rw [← hT2 t ht];exact World.cell?_of_block (a:=⟨3,t,none⟩) e
 simp only [List.nil_append,Int.zero_add] at hrest hrun3
 have hrs:rest.size<128:=by rw [Lib.size_eq,hrest];exact tail128_length _
 have HE:Hid (qck K H data.data.toList=qb6 (qbU (fun t=>K t) (qbU (fun t=>K t) (qbu H) data.data.toList) (rest.data.toList++padL 128 16 data.size))):=hid (by
  rw [hrest,(full64_append _ _ _ _).1,qck,← Lib.size_eq])
 generalize hst:qbU (fun t=>K t) (qbu H) data.data.toList=st at *
 have HI:=hid (show (Tryz.prog.info? 181).map (·.size)=some (rc64 [] [] st rest data.size).size from HZ.out.2)
 have HR3:=hid hrun3;have HP3:=hid hP3;obtain ⟨c0,c1,c2,c3,c4,c5,c6,c7,c8,c9,c10,c11,c12,c13⟩:=hP3.cells;clear hrest hrun3 hst hbut3 HP2 HR2 hP3 hT2 hB3
 go_wp2_with (with_reducible refine wpList_load_row rfl 181 _ rfl G rfl 181 _ (0,0) _ HR3.out Tryz.underlying181 rfl HI.out ?_)
 refine (sum64_any K st rest data.size W3 hT3 hrs hd).mono ?_
 rintro e W4 ⟨rfl,hb4⟩;clear c0 c1 c2 c3 c4 c5 c6 c7 c8 c9 c10 c11 c12 c13
 go_wp2_with fail
 go_ret
 exact ⟨by rw [HE.out];rfl,by rw [HBB.out];exact hB4.trans (hb4.mono (Nat.le_of_lt (qab HP3.out)))⟩
theorem sum512_any (K H:Nat→Int) (data:ByteArray) (w:World) (hK:TabK w K) (hH:TabH w H) (hd:data.size≤1099511627776) :
  Calls Tryz.prog 94 #[.string data] w fun e w'=>e=.returned (.string ⟨(qck K H data.data.toList).toArray⟩)∧Below w.heap.size w w':=by
 go_enter Tryz.func94,Tryz.ntmps94
 go_wp2_with fail
 refine (parameters512_any _).mono ?_
 rintro e W1 ⟨rfl,hb1⟩
 go_wp2_with fail
 refine (digest64_any K H data W1 (hK.below hb1 hK.lt) (hH.below hb1 hH.lt) hd).mono ?_
 rintro e W2 ⟨rfl,hb2⟩
 go_wp2_with fail
 go_ret
 exact ⟨rfl,hb1.trans (hb2.mono hb1.size)⟩
end
section
open Go.RowKit
def kList:List Int:=[4794697086780616226,8158064640168781261,13096744586834688815,16840607885511220156,4131703408338449720,6480981068601479193,10538285296894168987,12329834152419229976,15566598209576043074,1334009975649890238,2608012711638119052,6128411473006802146,8268148722764581231,9286055187155687089,11230858885718282805,13951009754708518548,16472876342353939154,17275323862435702243,1135362057144423861,2597628984639134821,3308224258029322869,5365058923640841347,6679025012923562964,8573033837759648693,10970295158949994411,12119686244451234320,12683024718118986047,13788192230050041572,14330467153632333762,15395433587784984357,489312712824947311,1452737877330783856,2861767655752347644,3322285676063803686,5560940570517711597,5996557281743188959,7280758554555802590,8532644243296465576,9350256976987008742,10552545826968843579,11727347734174303076,12113106623233404929,14000437183269869457,14369950271660146224,15101387698204529176,15463397548674623760,17586052441742319658,1182934255886127544,1847814050463011016,2177327727835720531,2830643537854262169,3796741975233480872,4115178125766777443,5681478168544905931,6601373596472566643,7507060721942968483,8399075790359081724,8693463985226723168,9568029438360202098,10144078919501101548,10430055236837252648,11840083180663258601,13761210420658862357,14299343276471374635,14566680578165727644,15097957966210449927,16922976911328602910,17689382322260857208,500013540394364858,748580250866718886,1242879168328830382,1977374033974150939,2944078676154940804,3659926193048069267,4368137639120453308,4836135668995329356,5532061633213252278,6448918945643986474,6902733635092675308,7801388544844847127]
def hList:List Int:=[7640891576956012808,13503953896175478587,4354685564936845355,11912009170470909681,5840696475078001361,11170449401992604703,2270897969802886507,6620516959819538809]
def kf (t:Nat):Int:=kList.getD t 0
def hf (t:Nat):Int:=hList.getD t 0
theorem sha256L_length (K H:Nat→Int) (l:List UInt8):(sha256L K H l).length=32:=dig32_length _
theorem qfQ (K H:Nat→Int) (l:List UInt8):(qck K H l).length=64:=qb0 _
theorem begins (l m:List UInt8) (n:Nat) (hl:l.length=n) (h:(l.take 4==m)=true) (hn:4≤n) :
  (((⟨l.toArray⟩:ByteArray).size:Int)==(n:Int))=true∧(4:Int)≤((⟨l.toArray⟩:ByteArray).size:Int)∧(((⟨l.toArray⟩:ByteArray).extract 0 4).toList==m)=true:=by
 have e:(⟨l.toArray⟩:ByteArray).size=n:=by rw [← hl];rfl
 refine ⟨by rw [e];simp,by rw [e];omega,?_⟩
 rw [Lib.toList_data,Lib.extract_data]
 simpa using h
end
end Go.Proofs.YteomfleofeeofaaGreatDoor
