/- The small functions of package sha at words of 32 bits. -/
import Derived.Test.YteomfleofeeofaaGreatDoorBase
namespace Go.Proofs.YteomfleofeeofaaGreatDoor
open Go.Lib (hid)
set_option maxHeartbeats 16000000
open Go.Proofs.Tryz
set_option maxRecDepth 100000
set_option linter.unusedSimpArgs false
set_option linter.unusedVariables false
section
open Go.RowKit Go.Sort
def qeL(v n:Int):Int:=bits .or .u32 (v/2^n.toNat) (v*2^(32-n).toNat%4294967296)
def qfL(v a b c:Int):Int:=bits .xor .u32 (bits .xor .u32 (qeL v a) (qeL v b)) (qeL v c)
def qes(v a b c:Int):Int:=bits .xor .u32 (bits .xor .u32 (qeL v a) (qeL v b)) (v/2^c.toNat)
theorem rotr32_any(v n:Int)(w:World)(h0:0≤n)(h1:n≤32):Calls Tryz.prog 232 #[.int .u32 v,.int .u64 n,.int .u64 32] w fun e w'=>e=.returned (.int .u32 (qeL v n))∧w'=w:=by
 go_enter func232,ntmps232;go_wp2;go_ret;exact⟨by simp[qeL],rfl⟩
theorem qeJ(v a b c:Int)(w:World)(a0:0≤a)(a1:a≤32)(b0:0≤b)(b1:b≤32)(c0:0≤c)(c1:c≤32):Rt 220 #[.int .u32 v,.agg #[.int .u64 a,.int .u64 b,.int .u64 c],.int .u64 32] w (.int .u32 (qfL v a b c)):=by
 unfold Rt;go_enter func220,ntmps220;go_wp2_with fail
 go_quiet ((go_at_call 232;exact Calls.quiet_of_same (rotr32_any _ _ _ (by assumption) (by assumption))))
 go_wp2;go_ret;exact⟨by simp[qfL],below_drewN ((Below.refl _ _).alloc (jlr _) _) _⟩
theorem shifted32_any(v a b c:Int)(w:World)(a0:0≤a)(a1:a≤32)(b0:0≤b)(b1:b≤32)(c0:0≤c)(c1:c≤32):Rt 231 #[.int .u32 v,.agg #[.int .u64 a,.int .u64 b,.int .u64 c],.int .u64 32] w (.int .u32 (qes v a b c)):=by
 unfold Rt;go_enter func231,ntmps231;go_wp2_with fail
 go_quiet ((go_at_call 232;exact Calls.quiet_of_same (rotr32_any _ _ _ (by assumption) (by assumption))))
 go_wp2;go_ret;exact⟨by simp[qes],below_drewN ((Below.refl _ _).alloc (jlr _) _) _⟩
abbrev qcB:Value:=.agg #[.int .i64 64,.int .i64 64,.int .u64 7,.int .u64 18,.int .u64 3,.int .u64 17,.int .u64 19,.int .u64 10,.int .u64 6,.int .u64 11,.int .u64 25,.int .u64 2,.int .u64 13,.int .u64 22]
theorem parameters256_any(w:World):Rt 88 #[] w qcB:=by
 unfold Rt;go_enter func88,ntmps88;go_wp2;exact jpr (v:=qcB) (by simp[results,results88,go_sem]) rfl ⟨rfl,by simpa using (Below.refl _ _).alloc (jlr _) _⟩
theorem wordBytes256(w:World):Rt 197 #[qcB] w (.int .i64 4):=by
 unfold Rt;go_enter func197,ntmps197;go_wp2;go_ret;exact⟨rfl,(Below.refl _ _).alloc (jlr _) _⟩
theorem qe1(w:World):Rt 221 #[qcB] w (.int .i64 8):=by
 unfold Rt;go_enter func221,ntmps221;go_wp2;go_ret;exact⟨rfl,(Below.refl _ _).alloc (jlr _) _⟩
theorem qfn(w:World):Rt 198 #[qcB] w (.int .u64 32):=by
 unfold Rt;go_enter func198,ntmps198;go_wp2;go_ret;exact⟨rfl,(Below.refl _ _).alloc (jlr _) _⟩
theorem unused256(w:World):Rt 194 #[qcB] w (.int .u64 32):=by
 unfold Rt;go_enter func194,ntmps194;go_wp2_with (go_at_call 198;refine (qfn _).mono ?_;rintro e w' ⟨rfl,hb⟩);go_ret;exact⟨rfl,((Below.refl _ _).alloc (jlr _) _).trans (hb.mono (by simp))⟩
def ld32(l:List UInt8):Int:=l.foldl (fun v c=>bits .or .u32 (v*256%4294967296) ((c.toNat:Int)%4294967296)) 0
theorem ld32_snoc(s:ByteArray)(k:Nat)(h:k<s.size):ld32 (s.data.toList.take (k+1))=bits .or .u32 (ld32 (s.data.toList.take k)*256%4294967296) ((s[k].toNat:Int)%4294967296):=by
 unfold ld32;rw[List.take_succ_eq_append_getElem (by simpa using h),List.foldl_append]
 rfl
theorem load32_any(s:ByteArray)(w:World)(hs:s.size≤maxLen):Calls Tryz.prog 230 #[.string s] w fun e w'=>e=.returned (.int .u32 (ld32 s.data.toList))∧w=w':=by
 unfold maxLen at hs;go_enter func230,ntmps230;go_wp2
 go_loop [3,7] (fun v i=>∃ k:Nat,k≤s.size∧i=.int .i64 k∧v=.int .u32 (ld32 (s.data.toList.take k))) (fun _ i=>s.size-(intOf i).toNat)
 case atStart=>exact⟨0,Nat.zero_le _,rfl,rfl⟩
 case round=>
  obtain⟨k,hk,rfl,rfl⟩:=hrel;by_cases z0:k<s.size
  ·have HS:=hid (ld32_snoc s k z0);generalize ld32 (s.data.toList.take k)=x at *;go_wp2
   go_round
   case rel=>exact⟨k+1,by omega,by go_num,by rw[HS.out]⟩
   case measure=>simp[intOf];omega
  ·go_wp2;go_ret;exact⟨by rw[jtl (by simp;omega)];rfl,rfl⟩
structure W8 where
 a:Int
 b:Int
 c:Int
 d:Int
 e:Int
 f:Int
 g:Int
 h:Int
def W8.at(s:W8):Nat→Int
 | 0=>s.a|1=>s.b|2=>s.c|3=>s.d|4=>s.e|5=>s.f|6=>s.g|_=>s.h
def ext32(l:List Int)(t:Nat):Int:=
 (l.getD (t-16) 0+l.getD (t-7) 0+qes (l.getD (t-15) 0) 7 18 3+qes (l.getD (t-2) 0) 17 19 10)%4294967296
def qa5(ws:List Int):Nat→List Int
 | 0=>ws
 | n+1=>qa5 ws n++[ext32 (qa5 ws n) (16+n)]
def qbk(b:List UInt8):List Int:=(List.range 16).map fun t=>ld32 ((b.drop (t*4)).take 4)
theorem qcR(ws:List Int)(h:ws.length=16)(n:Nat):(qa5 ws n).length=16+n:=by
 induction n with
 | zero=>simpa[qa5]using h
 | succ n ih=>simp[qa5,ih];omega
theorem qck(b:List UInt8):(qbk b).length=16:=by simp[qbk]
theorem wds32_snoc(b:List UInt8)(k:Nat)(h:k<16):(qbk b).take (k+1)=(qbk b).take k++[ld32 ((b.drop (k*4)).take 4)]:=by
 rw[List.take_succ_eq_append_getElem (by rw[qck];exact h)];simp[qbk]
def qaE(l:List Int):Array Value:=((l++List.replicate (80-l.length) 0).map (Value.int .u32)).toArray
theorem qdy(l:List Int)(h:l.length≤80):(qaE l).size=80:=by simp[qaE];omega
theorem pad80_32_get(l:List Int)(j:Nat)(h:j<l.length):(qaE l)[j]?=some (.int .u32 (l.getD j 0)):=by
 simp[qaE,List.getElem?_append,h]
theorem pad80_32_get0(l:List Int)(j:Nat)(h:l.length≤j)(h':j<80):(qaE l)[j]?=some (.int .u32 0):=by
 have:j-l.length<80-l.length:=by omega
 simp[qaE,List.getElem?_append,Nat.not_lt.2 h,this]
theorem pad80_32_set(l:List Int)(x:Int)(h:l.length<80):(qaE l).setIfInBounds l.length (.int .u32 x)=qaE (l++[x]):=by
 have e:80-l.length=(80-(l.length+1))+1:=by omega
 simp only[qaE,List.length_append,List.length_cons,List.length_nil,Nat.zero_add];rw[e,List.replicate_succ];simp[List.setIfInBounds_toArray,List.set_append]
theorem pad80_32_one(l:List Int)(h:l.length≤80):(qaE l).all (·.oneCell')=true:=by
 simp[qaE,Value.oneCell']
def rnd32(s:W8)(k w:Int):W8:=
 let x:=s.h+qfL s.e 6 11 25+bits .xor .u32 (bits .and .u32 s.e s.f) (bits .and .u32 (bits .xor .u32 IntKind.u32.max s.e) s.g)+k+w
 let y:=qfL s.a 2 13 22+bits .xor .u32 (bits .xor .u32 (bits .and .u32 s.a s.b) (bits .and .u32 s.a s.c)) (bits .and .u32 s.b s.c)
 ⟨(x+y)%4294967296,s.a,s.b,s.c,(s.d+x)%4294967296,s.e,s.f,s.g⟩
def qea(K W:Nat→Int)(s:W8):Nat→W8
 | 0=>s
 | n+1=>rnd32 (qea K W s n) (K n) (W n)
def add32(s t:W8):W8:=⟨(s.a+t.a)%4294967296,(s.b+t.b)%4294967296,(s.c+t.c)%4294967296,(s.d+t.d)%4294967296,(s.e+t.e)%4294967296,(s.f+t.f)%4294967296,(s.g+t.g)%4294967296,(s.h+t.h)%4294967296⟩
abbrev W8.cells32(s:W8):Array Value:=#[.int .u32 s.a,.int .u32 s.b,.int .u32 s.c,.int .u32 s.d,.int .u32 s.e,.int .u32 s.f,.int .u32 s.g,.int .u32 s.h]
def mix32(s t:W8)(k:Nat):Array Value:=((List.range 8).map fun j=>Value.int .u32 (if j<k then (s.at j+t.at j)%4294967296 else s.at j)).toArray
theorem lt8{k:Nat}(h:k<8):k=0∨k=1∨k=2∨k=3∨k=4∨k=5∨k=6∨k=7:=by omega
theorem mix32_set(s t:W8)(k:Nat)(h:k<8):(mix32 s t k).setIfInBounds k (.int .u32 ((s.at k+t.at k)%4294967296))=mix32 s t (k+1):=by
 rcases lt8 h with rfl|rfl|rfl|rfl|rfl|rfl|rfl|rfl<;>rfl
theorem mix32_get(s t:W8)(k:Nat)(h:k<8):(mix32 s t k)[k]?=some (.int .u32 (s.at k)):=by
 rcases lt8 h with rfl|rfl|rfl|rfl|rfl|rfl|rfl|rfl<;>rfl
theorem mix32_eight(s t:W8):mix32 s t 8=(add32 s t).cells32:=rfl
def qdJ(K:Nat→Int)(s:W8)(b:List UInt8):W8:=add32 s (qea K (fun t=>(qa5 (qbk b) 48).getD t 0) s 64)
theorem info80_32:(Tryz.prog.info? 195).map (fun i=>(i.zero,i.size))=some (some (.agg (qaE [])),80):=by kernel_rfl
def PrmAt(W:World)(b:Nat):Prop:=W.heap[b]?=some (.cells #[.int .i64 64,.int .i64 64,.int .u64 7,.int .u64 18,.int .u64 3,.int .u64 17,.int .u64 19,.int .u64 10,.int .u64 6,.int .u64 11,.int .u64 25,.int .u64 2,.int .u64 13,.int .u64 22] 95 (0,0))
theorem PrmAt.cells{W:World}{b:Nat}(h:PrmAt W b):W.cell? ⟨b,0,none⟩=some (.int .i64 64)∧W.cell? ⟨b,1,none⟩=some (.int .i64 64)∧
  W.cell? ⟨b,2,none⟩=some (.int .u64 7)∧W.cell? ⟨b,3,none⟩=some (.int .u64 18)∧W.cell? ⟨b,4,none⟩=some (.int .u64 3)∧
  W.cell? ⟨b,5,none⟩=some (.int .u64 17)∧W.cell? ⟨b,6,none⟩=some (.int .u64 19)∧W.cell? ⟨b,7,none⟩=some (.int .u64 10)∧
  W.cell? ⟨b,8,none⟩=some (.int .u64 6)∧W.cell? ⟨b,9,none⟩=some (.int .u64 11)∧W.cell? ⟨b,10,none⟩=some (.int .u64 25)∧
  W.cell? ⟨b,11,none⟩=some (.int .u64 2)∧W.cell? ⟨b,12,none⟩=some (.int .u64 13)∧W.cell? ⟨b,13,none⟩=some (.int .u64 22):=by
 refine⟨?_,?_,?_,?_,?_,?_,?_,?_,?_,?_,?_,?_,?_,?_⟩<;>(rw[jco W b _ _ _ _ h];rfl)
theorem PrmAt.below{W W':World}{b B:Nat}(h:PrmAt W b)(hb:Below B W W')(z0:b<B):PrmAt W' b:=(hb.block b z0).trans h
theorem schedule32_any(s:ByteArray)(w:World)(hs:64≤s.size)(hs':s.size≤64):Rt 219 #[qcB,.string s] w (.agg (qaE (qa5 (qbk s.data.toList) 48))):=by
 unfold Rt;obtain⟨hz,hi⟩:=jzi info80_32;go_enter func219,ntmps219;go_wp2_with fail
 clear hz;have hP:=qah (o:=.cells (qaE []) 195) (qah (o:=.cells (qaE []) 195) (qad w (.cells #[.int .i64 64,.int .i64 64,.int .u64 7,.int .u64 18,.int .u64 3,.int .u64 17,.int .u64 19,.int .u64 10,.int .u64 6,.int .u64 11,.int .u64 25,.int .u64 2,.int .u64 13,.int .u64 22] 95)));have hR:=qah (o:=.cells (qaE []) 195) (qaz w (.cells #[.int .i64 64,.int .i64 64,.int .u64 7,.int .u64 18,.int .u64 3,.int .u64 17,.int .u64 19,.int .u64 10,.int .u64 6,.int .u64 11,.int .u64 25,.int .u64 2,.int .u64 13,.int .u64 22] 95) (.cells (qaE []) 195));have hA:=qby w (.cells #[.int .i64 64,.int .i64 64,.int .u64 7,.int .u64 18,.int .u64 3,.int .u64 17,.int .u64 19,.int .u64 10,.int .u64 6,.int .u64 11,.int .u64 25,.int .u64 2,.int .u64 13,.int .u64 22] 95) (.cells (qaE []) 195) (.cells (qaE []) 195);have hB:=qbd w (.cells #[.int .i64 64,.int .i64 64,.int .u64 7,.int .u64 18,.int .u64 3,.int .u64 17,.int .u64 19,.int .u64 10,.int .u64 6,.int .u64 11,.int .u64 25,.int .u64 2,.int .u64 13,.int .u64 22] 95) (.cells (qaE []) 195) (.cells (qaE []) 195);generalize (((w.alloc _).alloc _).alloc _)=W at *;replace hP:PrmAt W w.heap.size:=hP;generalize ze:w.heap.size=B at *;have zk:=hid ze;clear ze;obtain⟨c0,c1,c2,c3,c4,c5,c6,c7,c8,c9,z5,z6,z7,z8⟩:=hP.cells
 have k0:=jcr c0;have k1:=jcr c1;have k2:=jcr c2;have k3:=jcr c3;have k4:=jcr c4;have k5:=jcr c5;have k6:=jcr c6;have k7:=jcr c7;have k8:=jcr c8;have k9:=jcr c9;have zp:=jcr z5;have zq:=jcr z6;have zr:=jcr z7;have zs:=jcr z8;have HR:=hid hR;have HA:=hid hA;clear hR hA;refine qav (by kernel_rfl) (by kernel_rfl) ?_
 repeat (quiet_step (first|(go_at_call 197;exact Calls.regrown_of (wordBytes256 _))|(go_at_call 198;exact Calls.regrown_of (qfn _))))
 refine jqn ?_;intro W2 z3;clear k0 k1 k2 k3 k4 k5 k6 k7 k8 k9 zp zq zr zs c0 c1 c2 c3 c4 c5 c6 c7 c8 c9 z5 z6 z7 z8;have zh:=hP.below z3 (qac hP);have zi:=hkq HR z3;have zf:=hkq HA z3;have zd:Below B w W2:=hB.trans (z3.mono (jll (qac hP)));clear hP HR HA hB z3;go_wp2_with fail
 go_loopw [14] (fun i wr=>∃ k:Nat,k≤16∧i=.int .i64 k∧PrmAt wr B∧wr.heap[B+1]?=some (.cells (qaE []) 195)∧wr.heap[B+1+1]?=some (.cells (qaE ((qbk s.data.toList).take k)) 195)∧Below B w wr) (fun i _=>16-(intOf i).toNat)
 case atStart=>exact⟨0,Nat.zero_le _,rfl,zh,zi,zf,zd⟩
 case round=>
  obtain⟨k,hk,rfl,hp,hr,ha,hb⟩:=hrel;clear zh zi zf zd;have hl:((qbk s.data.toList).take k).length=k:=by simp[qck];omega
  by_cases zg:k<16
  ·have z0:wr.cell? ⟨B+1+1,k,none⟩=some (.int .u32 0):=by rw[jco wr _ _ _ _ _ ha];exact pad80_32_get0 _ _ (by omega) (by omega)
   have z9:wr.frozen? ⟨B+1+1,k,none⟩=false:=jfr wr _ _ _ _ ha;have HP:=hid hp;have HR:=hid hr;have HA:=hid ha;have HL:=hid hl;clear hp hr ha hl;go_wp2_with fail;refine (load32_any _ _ (by simp[maxLen];omega)).mono ?_;rintro e w' ⟨rfl,rfl⟩;have HV:Hid ((k+1)*4-k*4=4):=hid (by omega);go_wp2_with fail;go_roundw
   case rel=>
    refine⟨k+1,by omega,by go_num,?_,?_,?_,hb.setCell (by simp;omega) _⟩
    ·exact (jso _ _ _ _ (by simp;omega)).trans HP.out
    ·exact (jso _ _ _ _ (by simp)).trans HR.out
    ·rw[wds32_snoc _ _ zg,HV.out];have e:=pad80_32_set ((qbk s.data.toList).take k) (ld32 ((s.data.toList.drop (k*4)).take 4)) (by rw[HL.out];omega);rw[HL.out]at e;rw[← e];exact heap_setCell_same _ _ _ _ _ _ HA.out
   case measure=>simp[intOf];omega
  ·have hd:decide ((k:Int)<16)=false:=by simp;omega
   have z4:(qbk s.data.toList).take k=qa5 (qbk s.data.toList) 0:=by rw[jtl (by rw[qck];omega)];rfl
   rw[z4]at ha;clear z4 hl;have HP:=hid hp;have HR:=hid hr;have HA:=hid ha;clear hp hr ha;have zo:wr.cell? ⟨B,1,none⟩=some (.int .i64 64):=HP.out.cells.2.1;go_wp2_with fail;clear zo
   go_loopw [9] (fun i wr=>∃ t:Nat,16≤t∧t≤64∧i=.int .i64 t∧PrmAt wr B∧wr.heap[B+1]?=some (.cells (qaE []) 195)∧wr.heap[B+1+1]?=some (.cells (qaE (qa5 (qbk s.data.toList) (t-16))) 195)∧Below B w wr) (fun i _=>64-(intOf i).toNat)
   case atStart=>exact⟨16,jlr _,by omega,rfl,HP.out,HR.out,HA.out,hb⟩
   case round=>
    clear HP HR HA hb hd;obtain⟨t,ht,ht',rfl,hp,hr,ha,hb⟩:=hrel;obtain⟨c0,c1,c2,c3,c4,c5,c6,c7,c8,c9,z5,z6,z7,z8⟩:=hp.cells;clear c0 c8 c9 z5 z6 z7 z8;have hl:(qa5 (qbk s.data.toList) (t-16)).length=t:=by rw[qcR _ (qck _)];omega
    have za:=qac ha;by_cases zg:t<64
    ·have hd:decide ((t:Int)<64)=true:=by simp;omega
     have z0:∀ j,j<t→wr.cell? ⟨B+1+1,j,none⟩=some (.int .u32 ((qa5 (qbk s.data.toList) (t-16)).getD j 0)):=fun j hj=>by rw[jco wr _ _ _ _ _ ha];exact pad80_32_get _ _ (by omega)
     have zc:=z0 (t-16) (by omega);have d7:=z0 (t-7) (by omega);have zb:=z0 (t-15) (by omega);have d2:=z0 (t-2) (by omega);have dt:wr.cell? ⟨B+1+1,t,none⟩=some (.int .u32 0):=by rw[jco wr _ _ _ _ _ ha];exact pad80_32_get0 _ _ (by omega) (by omega)
     have z9:wr.frozen? ⟨B+1+1,t,none⟩=false:=jfr wr _ _ _ _ ha;have he:ext32 (qa5 (qbk s.data.toList) (t-16)) t=((qa5 (qbk s.data.toList) (t-16)).getD (t-16) 0+(qa5 (qbk s.data.toList) (t-16)).getD (t-7) 0+qes ((qa5 (qbk s.data.toList) (t-16)).getD (t-15) 0) 7 18 3+qes ((qa5 (qbk s.data.toList) (t-16)).getD (t-2) 0) 17 19 10)%4294967296:=rfl;generalize (qa5 (qbk s.data.toList) (t-16)).getD (t-16) 0=x16 at *;generalize (qa5 (qbk s.data.toList) (t-16)).getD (t-7) 0=x7 at *;generalize (qa5 (qbk s.data.toList) (t-16)).getD (t-15) 0=x15 at *;generalize (qa5 (qbk s.data.toList) (t-16)).getD (t-2) 0=x2 at *;have HP:=hid hp;have HR:=hid hr;have HA:=hid ha;have HL:=hid hl;have HE:=hid he;clear hp hr ha hl z0 he;go_wp2_with fail;have zu:=jcr zc;have k7:=jcr d7;have zt:=jcr zb;have k2:=jcr d2;have m2:=jcr c2;have m3:=jcr c3;have m4:=jcr c4;have m5:=jcr c5;have m6:=jcr c6;have m7:=jcr c7;refine qak 29 (by kernel_rfl) (by kernel_rfl) ?_;simp only[List.take_succ_cons,List.take_zero,List.drop_succ_cons,List.drop_zero]
     repeat (first|go_big_quiet_step ((go_at_call 231;exact Calls.regrown_of (shifted32_any _ _ _ _ _ (by omega) (by omega) (by omega) (by omega) (by omega) (by omega))))|quiet_step ((go_at_call 231;exact Calls.regrown_of (shifted32_any _ _ _ _ _ (by omega) (by omega) (by omega) (by omega) (by omega) (by omega)))))
     refine jqn ?_;intro W3 z2;clear zu k7 zt k2 m2 m3 m4 m5 m6 m7;have dt3:W3.cell? ⟨B+1+1,t,none⟩=some (.int .u32 0):=(z2.cell (by simpa using za)).trans dt;have hfz3:W3.frozen? ⟨B+1+1,t,none⟩=false:=(z2.frozen (by simpa using za)).trans z9;have hsz3:=z2.size;have zn:Below B w W3:=hb.trans (z2.mono (by omega));have zl:=hid (HP.out.below z2 (by omega));have zm:=hid (qap z2 (by omega) HR.out);have zj:=hid (qap z2 za HA.out);clear HP HR HA zc d7 zb d2 dt z9 z2 hb c1 c2 c3 c4 c5 c6 c7;go_wp2_with fail;go_roundw
     case rel=>
      refine⟨t+1,by omega,by omega,by go_num,?_,?_,?_,zn.setCell (by simp;omega) _⟩
      ·exact (jso _ _ _ _ (by simp;omega)).trans zl.out
      ·exact (jso _ _ _ _ (by simp)).trans zm.out
      ·have e:=pad80_32_set (qa5 (qbk s.data.toList) (t-16)) (ext32 (qa5 (qbk s.data.toList) (t-16)) t) (by rw[HL.out];omega);rw[HL.out]at e;have e2:qa5 (qbk s.data.toList) (t+1-16)=qa5 (qbk s.data.toList) (t-16)++[ext32 (qa5 (qbk s.data.toList) (t-16)) t]:=by
        rw[show t+1-16=(t-16)+1 by omega,qa5,show 16+(t-16)=t by omega]
       rw[e2,← e];refine (heap_setCell_same _ _ _ _ _ _ zj.out).trans ?_;rw[HE.out]
     case measure=>simp[intOf];omega
    ·have hd:decide ((t:Int)<64)=false:=by simp;omega
     obtain rfl:t=64:=by omega
     have HP:=hid hp;have HR:=hid hr;have HA:=hid ha;have z1:(qa5 (qbk s.data.toList) (64-16)).length≤80:=by rw[qcR _ (qck _)];omega
     have HI:=hid (show (Tryz.prog.info? 195).map (·.size)=some (qaE (qa5 (qbk s.data.toList) (64-16))).size from by rw[qdy _ z1];exact hi);have HO:=hid (show (qaE []).size=(qaE (qa5 (qbk s.data.toList) (64-16))).size from by rw[qdy _ z1,qdy _ (by simp)]);have H1:=hid (pad80_32_one _ z1);clear hp hr ha hl c2 c3 c4 c5 c6 c7 hi z1;go_wp2_with (first
      | (with_reducible refine jlw rfl 195 _ rfl (B+1+1) rfl 195 _ (0,0) (.array 80 91) HA.out underlying195 rfl HI.out ?_)
      | (with_reducible refine jsr rfl 195 _ _ rfl (B+1) (qaE (qa5 (qbk s.data.toList) (64-16))) rfl rfl 195 _ HR.out HI.out HO.out H1.out ?_))
     exact jpr (v:=.agg (qaE (qa5 (qbk s.data.toList) (64-16)))) (jrc (by rfl) _ _ (B+1) 195 _ (0,0) (.array 80 91) rfl (jsh _ _ _ _ _ _ HR.out) underlying195 rfl HI.out) rfl ⟨rfl,by rw[zk.out];exact jbr hb (by omega) _⟩
def TabK(w:World)(K:Nat→Int):Prop:=∀ t,t<80→w.cell? ⟨3,t,none⟩=some (.int .u64 (K t))
theorem TabK.lt{w:World}{K:Nat→Int}(h:TabK w K):3 < w.heap.size:=jbc (h 0 (by omega))
theorem TabK.below{w w':World}{K:Nat→Int}{B:Nat}(h:TabK w K)(hb:Below B w w')(hB:3 < B):TabK w' K:=fun t ht=>(hb.cell hB).trans (h t ht)
theorem info8_32:(Tryz.prog.info? 142).map (fun i=>(i.zero,i.size))=some (some (.agg #[.int .u32 0,.int .u32 0,.int .u32 0,.int .u32 0,.int .u32 0,.int .u32 0,.int .u32 0,.int .u32 0]),8):=by kernel_rfl
theorem index8_32(s:W8)(w:World)(k:Nat)(h:k<8):(Instr.index 142 (.agg s.cells32) (.int .i64 (k:Int))).run Tryz.prog w=.ok (.int .u32 (s.at k)) w:=by
 rcases lt8 h with rfl|rfl|rfl|rfl|rfl|rfl|rfl|rfl<;>kernel_rfl
structure CInv32 (K:Nat→Int) (w W:World) (B G:Nat) (S ws:Array Value):Prop where
 prm:PrmAt W B
 row:W.heap[B+1]?=some (.cells S 142)
 res:W.heap[B+1+1]?=some (.cells #[.int .u32 0,.int .u32 0,.int .u32 0,.int .u32 0,.int .u32 0,.int .u32 0,.int .u32 0,.int .u32 0] 142)
 wds:W.heap[G]?=some (.cells ws 195)
 tab:TabK W K
 low:3 < B
 bel:Below B w W
 lt:B+1+1<G
theorem CInv32.step{K:Nat→Int}{w W W':World}{B G:Nat}{S ws:Array Value}(h:CInv32 K w W B G S ws)(hb:Below W.heap.size W W'):CInv32 K w W' B G S ws:=
 ⟨h.prm.below hb (qac h.prm),qap hb (qac h.row) h.row,qap hb (qac h.res) h.res,qap hb (qac h.wds) h.wds,h.tab.below hb h.tab.lt,h.low,
  h.bel.trans (hb.mono (jll (qac h.prm))),h.lt⟩
theorem CInv32.state{K:Nat→Int}{w W:World}{B G:Nat}{st:W8}{ws:Array Value}(h:CInv32 K w W B G st.cells32 ws):W.cell? ⟨B+1,0,none⟩=some (.int .u32 st.a)∧W.cell? ⟨B+1,1,none⟩=some (.int .u32 st.b)∧W.cell? ⟨B+1,2,none⟩=some (.int .u32 st.c)∧W.cell? ⟨B+1,3,none⟩=some (.int .u32 st.d)∧
  W.cell? ⟨B+1,4,none⟩=some (.int .u32 st.e)∧W.cell? ⟨B+1,5,none⟩=some (.int .u32 st.f)∧W.cell? ⟨B+1,6,none⟩=some (.int .u32 st.g)∧W.cell? ⟨B+1,7,none⟩=some (.int .u32 st.h):=by
 refine⟨?_,?_,?_,?_,?_,?_,?_,?_⟩<;>(rw[jco W _ _ _ _ _ h.row];rfl)
set_option maxRecDepth 100000 in
theorem qcN(K:Nat→Int)(st:W8)(s:ByteArray)(w:World)(hs:64≤s.size)(zr:s.size≤64)(hK:TabK w K):Rt 195 #[qcB,.agg st.cells32,.string s] w (.agg (qdJ (fun t=>K t/4294967296) st s.data.toList).cells32):=by
 unfold Rt;have Hz:=hid (jzi info80_32);go_enter func195,ntmps195;go_wp2_with fail;have hP:=qah (o:=.cells #[.int .u32 0,.int .u32 0,.int .u32 0,.int .u32 0,.int .u32 0,.int .u32 0,.int .u32 0,.int .u32 0] 142) (qah (o:=.cells st.cells32 142) (qad w (.cells #[.int .i64 64,.int .i64 64,.int .u64 7,.int .u64 18,.int .u64 3,.int .u64 17,.int .u64 19,.int .u64 10,.int .u64 6,.int .u64 11,.int .u64 25,.int .u64 2,.int .u64 13,.int .u64 22] 95)));have hR:=qah (o:=.cells #[.int .u32 0,.int .u32 0,.int .u32 0,.int .u32 0,.int .u32 0,.int .u32 0,.int .u32 0,.int .u32 0] 142) (qaz w (.cells #[.int .i64 64,.int .i64 64,.int .u64 7,.int .u64 18,.int .u64 3,.int .u64 17,.int .u64 19,.int .u64 10,.int .u64 6,.int .u64 11,.int .u64 25,.int .u64 2,.int .u64 13,.int .u64 22] 95) (.cells st.cells32 142));have hA:=qby w (.cells #[.int .i64 64,.int .i64 64,.int .u64 7,.int .u64 18,.int .u64 3,.int .u64 17,.int .u64 19,.int .u64 10,.int .u64 6,.int .u64 11,.int .u64 25,.int .u64 2,.int .u64 13,.int .u64 22] 95) (.cells st.cells32 142) (.cells #[.int .u32 0,.int .u32 0,.int .u32 0,.int .u32 0,.int .u32 0,.int .u32 0,.int .u32 0,.int .u32 0] 142)
 have hB:=qbd w (.cells #[.int .i64 64,.int .i64 64,.int .u64 7,.int .u64 18,.int .u64 3,.int .u64 17,.int .u64 19,.int .u64 10,.int .u64 6,.int .u64 11,.int .u64 25,.int .u64 2,.int .u64 13,.int .u64 22] 95) (.cells st.cells32 142) (.cells #[.int .u32 0,.int .u32 0,.int .u32 0,.int .u32 0,.int .u32 0,.int .u32 0,.int .u32 0,.int .u32 0] 142);generalize (((w.alloc _).alloc _).alloc _)=W at *;have zf:=hK.lt;have zc:=hK.below hB zf;generalize zi:w.heap.size=B at *;have zp:=hid zi;clear zi hK;refine (schedule32_any s _ hs zr).mono ?_;rintro e w1⟨rfl,z5⟩;have za:(qa5 (qbk s.data.toList) 48).length=64:=by rw[qcR _ (qck _)]
 have HC:=hid (show qdJ (fun t=>K t/4294967296) st s.data.toList=add32 st (qea (fun t=>K t/4294967296) (fun t=>(qa5 (qbk s.data.toList) 48).getD t 0) st 64) from rfl);generalize z8:qdJ (fun t=>K t/4294967296) st s.data.toList=out at *;have zb:=hid z8;clear z8;generalize qa5 (qbk s.data.toList) 48=ws at *;have zg:=qdy ws (by omega);have hi:=Hz.out.2;have HI:=hid (show (Tryz.prog.info? 195).map (·.size)=some (qaE ws).size from by rw[zg];exact hi);have HO:=hid (show (qaE []).size=(qaE ws).size from by rw[zg,qdy _ (by simp)]);have H1:=hid (pad80_32_one ws (by omega));have hz:=Hz.out.1;have HL:=hid za;clear zg hi za;have zd:=qap z5 (qac hA) hA;have z9:CInv32 K w ((w1.alloc (.cells (qaE []) 195)).setRow w1.heap.size (qaE ws)) B w1.heap.size st.cells32 (qaE ws):=by
  have l1:=qac zd;have ne:∀ k,k<B+1+1+1→k≠w1.heap.size:=fun k hk=>by omega
  refine⟨?_,?_,?_,?_,?_,by omega,?_,by omega⟩
  ·exact (jro _ _ _ _ (ne _ (by omega))).trans (qah (qap z5 (qac hP) hP))
  ·exact (jro _ _ _ _ (ne _ (by omega))).trans (qah (qap z5 (qac hR) hR))
  ·exact (jro _ _ _ _ (ne _ (by omega))).trans (qah zd)
  ·exact jsh _ _ _ _ _ _ (qad w1 _)
  ·have h1:=zc.below z5 zc.lt;exact fun t ht=>(cell_setRow_other _ _ _ _ (by simp;omega)).trans ((qaf w1 _).cell (by simp;omega) |>.trans (h1 t ht))
  ·exact jbr ((hB.trans (z5.mono (jll (qac hP)))).alloc (by omega) _) (by omega) _
 have HG:=hid (qad w1 (.cells (qaE []) 195));clear hP hR hA hB z5 zc zd;go_wp2_with (with_reducible refine jsr rfl 195 _ _ rfl w1.heap.size (qaE ws) rfl rfl 195 _ HG.out HI.out HO.out H1.out ?_);clear Hz HG HI HO H1 hz;generalize (w1.alloc (.cells (qaE []) 195)).setRow w1.heap.size (qaE ws)=W2 at *;generalize w1.heap.size=G at *;simp only[Act.put];have HV:=hid z9;clear z9
 -- the bits of a word,and how many are left out
 ·obtain⟨c0,c1,c2,c3,c4,c5,c6,c7,c8,c9,z0,z2,z3,z4⟩:=HV.out.prm.cells;have k0:=jcr c0;have k1:=jcr c1;have k2:=jcr c2;have k3:=jcr c3;have k4:=jcr c4;have k5:=jcr c5;have k6:=jcr c6;have k7:=jcr c7;have k8:=jcr c8;have k9:=jcr c9;have zh:=jcr z0;have zs:=jcr z2;have zt:=jcr z3;have zu:=jcr z4;refine qav (by kernel_rfl) (by kernel_rfl) ?_
  repeat (quiet_step (first|(go_at_call 194;exact Calls.regrown_of (unused256 _))|(go_at_call 198;exact Calls.regrown_of (qfn _))))
  refine jqn ?_;intro W3 zj;replace HV:=hid (HV.out.step zj);clear k0 k1 k2 k3 k4 k5 k6 k7 k8 k9 zh zs zt zu c0 c1 c2 c3 c4 c5 c6 c7 c8 c9 z0 z2 z3 z4 zj;go_wp2_with fail
  -- the words of the state
  obtain⟨c0,c1,c2,c3,c4,c5,c6,c7⟩:=HV.out.state;have k0:=jcr c0;have k1:=jcr c1;have k2:=jcr c2;have k3:=jcr c3;refine qav (by kernel_rfl) (by kernel_rfl) ?_
  repeat (first|go_big_quiet_step (fail)|quiet_step (fail))
  refine jqn ?_;intro W4 zk;replace HV:=hid (HV.out.step zk);clear k0 k1 k2 k3 c0 c1 c2 c3 c4 c5 c6 c7 zk;go_wp2_with fail;obtain⟨c0,c1,c2,c3,c4,c5,c6,c7⟩:=HV.out.state;have k4:=jcr c4;have k5:=jcr c5;have k6:=jcr c6;have k7:=jcr c7;refine qav (by kernel_rfl) (by kernel_rfl) ?_
  repeat (first|go_big_quiet_step (fail)|quiet_step (fail))
  refine jqn ?_;intro W5 zl;replace HV:=hid (HV.out.step zl);clear k4 k5 k6 k7 c0 c1 c2 c3 c4 c5 c6 c7 zl;have c1:=HV.out.prm.cells.2.1;go_wp2_with fail;clear c1
  go_loopw [10,11,12,13,14,15,16,17,49] (fun a b c d e f g h i wr=>∃ (t:Nat) (r:W8),t≤64∧i=.int .i64 t∧Hid (qea (fun t=>K t/4294967296) (fun t=>ws.getD t 0) st t=r)∧
    a=.int .u32 r.a∧b=.int .u32 r.b∧c=.int .u32 r.c∧d=.int .u32 r.d∧e=.int .u32 r.e∧f=.int .u32 r.f∧g=.int .u32 r.g∧h=.int .u32 r.h∧CInv32 K w wr B G st.cells32 (qaE ws)) (fun _ _ _ _ _ _ _ _ i _=>64-(intOf i).toNat)
  case atStart=>exact⟨0,st,by omega,rfl,hid rfl,rfl,rfl,rfl,rfl,rfl,rfl,rfl,rfl,HV.out⟩
  case round=>
   clear HV;obtain⟨t,⟨xa,xb,xc,xd,xe,xf,xg,xh⟩,ht,rfl,HR,rfl,rfl,rfl,rfl,rfl,rfl,rfl,rfl,hv⟩:=hrel;have HV:=hid hv;clear hv;by_cases hlt:t<64
   ·have hd:decide ((t:Int)<64)=true:=by simp;omega
    have ck:=HV.out.tab t (by omega);have cw:wr.cell? ⟨G,t,none⟩=some (.int .u32 (ws.getD t 0)):=by rw[jco wr _ _ _ _ _ HV.out.wds];exact pad80_32_get _ _ (by have:=HL.out;omega)
    obtain⟨c0,c1,c2,c3,c4,c5,c6,c7,c8,c9,z0,z2,z3,z4⟩:=HV.out.prm.cells;clear c0 c1 c2 c3 c4 c5 c6 c7;have HS:=hid (show qea (fun t=>K t/4294967296) (fun t=>ws.getD t 0) st (t+1)=rnd32 ⟨xa,xb,xc,xd,xe,xf,xg,xh⟩ (K t/4294967296) (ws.getD t 0) from by rw[qea,HR.out]);generalize ws.getD t 0=xw at *;generalize K t=xk at *;go_wp2_with fail;have k8:=jcr c8;have k9:=jcr c9;have zh:=jcr z0;have kw:=jcr cw;refine qav (by kernel_rfl) (by kernel_rfl) ?_
    repeat (first|go_big_quiet_step ((go_at_call 220;exact Calls.regrown_of (qeJ _ _ _ _ _ (by omega) (by omega) (by omega) (by omega) (by omega) (by omega))))|quiet_step ((go_at_call 220;exact Calls.regrown_of (qeJ _ _ _ _ _ (by omega) (by omega) (by omega) (by omega) (by omega) (by omega)))))
    refine jqn ?_;intro W6 zm;replace HV:=hid (HV.out.step zm);clear ck cw c8 c9 z0 z2 z3 z4 k8 k9 zh kw zm;obtain⟨c0,c1,c2,c3,c4,c5,c6,c7,c8,c9,z0,z2,z3,z4⟩:=HV.out.prm.cells;clear c0 c1 c2 c3 c4 c5 c6 c7 c8 c9 z0;go_wp2_with fail;refine (qeJ _ _ _ _ _ (by omega) (by omega) (by omega) (by omega) (by omega) (by omega)).mono ?_;rintro e W7⟨rfl,zn⟩;replace HV:=hid (HV.out.step zn);clear z2 z3 z4 zn;go_wp2_with fail;go_roundw
    case rel=>
     refine⟨t+1,rnd32 ⟨xa,xb,xc,xd,xe,xf,xg,xh⟩ (xk/4294967296) xw,by omega,by go_num,HS,?_,rfl,rfl,rfl,?_,rfl,rfl,rfl,HV.out⟩
     ·exact congrArg (Value.int .u32) (by simp only[rnd32];omega)
     ·exact congrArg (Value.int .u32) (by simp only[rnd32];omega)
    case measure=>simp[intOf];omega
   ·have hd:decide ((t:Int)<64)=false:=by simp;omega
    obtain rfl:t=64:=by omega
    go_wp2_with fail;have HX:=hid (index8_32 ⟨xa,xb,xc,xd,xe,xf,xg,xh⟩)
    go_loopw [119] (fun i wr=>∃ k:Nat,k≤8∧i=.int .i64 k∧CInv32 K w wr B G (mix32 st ⟨xa,xb,xc,xd,xe,xf,xg,xh⟩ k) (qaE ws)) (fun i _=>8-(intOf i).toNat)
    case atStart=>exact⟨0,by omega,rfl,HV.out⟩
    case round=>
     clear HV hd;obtain⟨k,hk,rfl,hv⟩:=hrel;have HV:=hid hv;clear hv;by_cases ze:k<8
     ·have hd:decide ((k:Int)<8)=true:=by simp;omega
      have hix:∀ w,(Instr.index 142 (.agg #[.int .u32 xa,.int .u32 xb,.int .u32 xc,.int .u32 xd,.int .u32 xe,.int .u32 xf,.int .u32 xg,.int .u32 xh]) (.int .i64 (k:Int))).run Tryz.prog w=.ok (.int .u32 (W8.at ⟨xa,xb,xc,xd,xe,xf,xg,xh⟩ k)) w:=fun w=>HX.out w k ze;have cs:wr.cell? ⟨B+1,k,none⟩=some (.int .u32 (st.at k)):=by rw[jco wr _ _ _ _ _ HV.out.row];exact mix32_get _ _ _ ze
      have fs:wr.frozen? ⟨B+1,k,none⟩=false:=jfr wr _ _ _ _ HV.out.row;go_wp2_with fail;go_roundw
      case rel=>
       refine⟨k+1,by omega,by go_num,?_⟩;have h:=HV.out;have l1:=h.lt;have l0:=h.low;refine⟨?_,?_,?_,?_,?_,l0,h.bel.setCell (by simp) _,l1⟩
       ·exact (jso _ _ _ _ (by simp)).trans h.prm
       ·rw[← mix32_set _ _ _ ze];exact heap_setCell_same _ _ _ _ _ _ h.row
       ·exact (jso _ _ _ _ (by simp)).trans h.res
       ·exact (jso _ _ _ _ (by simp;omega)).trans h.wds
       ·exact fun t ht=>(World.cell?_setCell_far _ _ _ _ (by simp;omega)).trans (h.tab t ht)
      case measure=>simp[intOf];omega
     ·have hd:decide ((k:Int)<8)=false:=by simp;omega
      obtain rfl:k=8:=by omega
      have z1:=HV.out.row;rw[mix32_eight]at z1;have z7:=hid z1;have z6:=hid HV.out.res;have HI:=hid (show (Tryz.prog.info? 142).map (·.size)=some out.cells32.size from (jzi info8_32).2);have zq:=hid (show (#[.int .u32 0,.int .u32 0,.int .u32 0,.int .u32 0,.int .u32 0,.int .u32 0,.int .u32 0,.int .u32 0]:Array Value).size=out.cells32.size from rfl);have zo:=hid (show out.cells32.all (·.oneCell')=true from by simp[Value.oneCell']);have HO:Hid (out=add32 st ⟨xa,xb,xc,xd,xe,xf,xg,xh⟩):=hid (by rw[HC.out,HR.out]);rw[← HO.out]at z7;clear z1 hd;go_wp2_with (first
       | (with_reducible refine jlw rfl 142 _ rfl (B+1) rfl 142 _ (0,0) (.array 8 91) z7.out underlying142 rfl HI.out ?_)
       | (with_reducible refine jsr rfl 142 _ _ rfl (B+1+1) out.cells32 rfl rfl 142 _ z6.out HI.out zq.out zo.out ?_))
      exact jpr (v:=.agg out.cells32) (jrc (by rfl) _ _ (B+1+1) 142 _ (0,0) (.array 8 91) rfl (jsh _ _ _ _ _ _ z6.out) underlying142 rfl HI.out) rfl ⟨by rw[zb.out],by rw[zp.out];exact jbr HV.out.bel (by omega) _⟩
def qeM(v n:Int):Int:=bits .or .u64 (v/2^n.toNat) (IntKind.u64.wrap (v*2^(64-n).toNat))
def qfM(v a b c:Int):Int:=bits .xor .u64 (bits .xor .u64 (qeM v a) (qeM v b)) (qeM v c)
def qet(v a b c:Int):Int:=bits .xor .u64 (bits .xor .u64 (qeM v a) (qeM v b)) (v/2^c.toNat)
theorem rotr64_any(v n:Int)(w:World)(h0:0≤n)(h1:n≤64):Calls Tryz.prog 242 #[.int .u64 v,.int .u64 n,.int .u64 64] w fun e w'=>e=.returned (.int .u64 (qeM v n))∧w'=w:=by
 go_enter func242,ntmps242;go_wp2;go_ret;exact⟨by simp[qeM],rfl⟩
theorem qeK(v a b c:Int)(w:World)(a0:0≤a)(a1:a≤64)(b0:0≤b)(b1:b≤64)(c0:0≤c)(c1:c≤64):Rt 234 #[.int .u64 v,.agg #[.int .u64 a,.int .u64 b,.int .u64 c],.int .u64 64] w (.int .u64 (qfM v a b c)):=by
 unfold Rt;go_enter func234,ntmps234;go_wp2_with fail
 go_quiet ((go_at_call 242;exact Calls.quiet_of_same (rotr64_any _ _ _ (by assumption) (by assumption))))
 go_wp2;go_ret;exact⟨by simp[qfM],below_drewN ((Below.refl _ _).alloc (jlr _) _) _⟩
theorem shifted64_any(v a b c:Int)(w:World)(a0:0≤a)(a1:a≤64)(b0:0≤b)(b1:b≤64)(c0:0≤c)(c1:c≤64):Rt 241 #[.int .u64 v,.agg #[.int .u64 a,.int .u64 b,.int .u64 c],.int .u64 64] w (.int .u64 (qet v a b c)):=by
 unfold Rt;go_enter func241,ntmps241;go_wp2_with fail
 go_quiet ((go_at_call 242;exact Calls.quiet_of_same (rotr64_any _ _ _ (by assumption) (by assumption))))
 go_wp2;go_ret;exact⟨by simp[qet],below_drewN ((Below.refl _ _).alloc (jlr _) _) _⟩
abbrev qcC:Value:=.agg #[.int .i64 128,.int .i64 80,.int .u64 1,.int .u64 8,.int .u64 7,.int .u64 19,.int .u64 61,.int .u64 6,.int .u64 14,.int .u64 18,.int .u64 41,.int .u64 28,.int .u64 34,.int .u64 39]
theorem parameters512_any(w:World):Rt 156 #[] w qcC:=by
 unfold Rt;go_enter func156,ntmps156;go_wp2;exact jpr (v:=qcC) (by simp[results,results156,go_sem]) rfl ⟨rfl,by simpa using (Below.refl _ _).alloc (jlr _) _⟩
theorem wordBytes512(w:World):Rt 197 #[qcC] w (.int .i64 8):=by
 unfold Rt;go_enter func197,ntmps197;go_wp2;go_ret;exact⟨rfl,(Below.refl _ _).alloc (jlr _) _⟩
theorem qe2(w:World):Rt 221 #[qcC] w (.int .i64 16):=by
 unfold Rt;go_enter func221,ntmps221;go_wp2;go_ret;exact⟨rfl,(Below.refl _ _).alloc (jlr _) _⟩
theorem qfo(w:World):Rt 198 #[qcC] w (.int .u64 64):=by
 unfold Rt;go_enter func198,ntmps198;go_wp2;go_ret;exact⟨rfl,(Below.refl _ _).alloc (jlr _) _⟩
theorem unused512(w:World):Rt 194 #[qcC] w (.int .u64 0):=by
 unfold Rt;go_enter func194,ntmps194;go_wp2_with (go_at_call 198;refine (qfo _).mono ?_;rintro e w' ⟨rfl,hb⟩);go_ret;exact⟨rfl,((Below.refl _ _).alloc (jlr _) _).trans (hb.mono (by simp))⟩
def ld64(l:List UInt8):Int:=l.foldl (fun v c=>bits .or .u64 (IntKind.u64.wrap (v*256)) (IntKind.u64.wrap (c.toNat:Int))) 0
theorem ld64_snoc(s:ByteArray)(k:Nat)(h:k<s.size):ld64 (s.data.toList.take (k+1))=bits .or .u64 (IntKind.u64.wrap (ld64 (s.data.toList.take k)*256)) (IntKind.u64.wrap (s[k].toNat:Int)):=by
 unfold ld64;rw[List.take_succ_eq_append_getElem (by simpa using h),List.foldl_append]
 rfl
theorem load64_any(s:ByteArray)(w:World)(hs:s.size≤maxLen):Calls Tryz.prog 240 #[.string s] w fun e w'=>e=.returned (.int .u64 (ld64 s.data.toList))∧w=w':=by
 unfold maxLen at hs;go_enter func240,ntmps240;go_wp2
 go_loop [3,7] (fun v i=>∃ k:Nat,k≤s.size∧i=.int .i64 k∧v=.int .u64 (ld64 (s.data.toList.take k))) (fun _ i=>s.size-(intOf i).toNat)
 case atStart=>exact⟨0,Nat.zero_le _,rfl,rfl⟩
 case round=>
  obtain⟨k,hk,rfl,rfl⟩:=hrel;by_cases z0:k<s.size
  ·have HS:=hid (ld64_snoc s k z0);generalize ld64 (s.data.toList.take k)=x at *;go_wp2
   go_round
   case rel=>exact⟨k+1,by omega,by go_num,by rw[HS.out]⟩
   case measure=>simp[intOf];omega
  ·go_wp2;go_ret;exact⟨by rw[jtl (by simp;omega)];rfl,rfl⟩
def ext64(l:List Int)(t:Nat):Int:=
 IntKind.u64.wrap (IntKind.u64.wrap (IntKind.u64.wrap (l.getD (t-16) 0+l.getD (t-7) 0)+qet (l.getD (t-15) 0) 1 8 7)+qet (l.getD (t-2) 0) 19 61 6)
def qa3(ws:List Int):Nat→List Int
 | 0=>ws
 | n+1=>qa3 ws n++[ext64 (qa3 ws n) (16+n)]
def qbg(b:List UInt8):List Int:=(List.range 16).map fun t=>ld64 ((b.drop (t*8)).take 8)
theorem qcS(ws:List Int)(h:ws.length=16)(n:Nat):(qa3 ws n).length=16+n:=by
 induction n with
 | zero=>simpa[qa3]using h
 | succ n ih=>simp[qa3,ih];omega
theorem qcl(b:List UInt8):(qbg b).length=16:=by simp[qbg]
theorem wds64_snoc(b:List UInt8)(k:Nat)(h:k<16):(qbg b).take (k+1)=(qbg b).take k++[ld64 ((b.drop (k*8)).take 8)]:=by
 rw[List.take_succ_eq_append_getElem (by rw[qcl];exact h)];simp[qbg]
def qaF(l:List Int):Array Value:=((l++List.replicate (80-l.length) 0).map (Value.int .u64)).toArray
theorem qdz(l:List Int)(h:l.length≤80):(qaF l).size=80:=by simp[qaF];omega
theorem pad80_64_get(l:List Int)(j:Nat)(h:j<l.length):(qaF l)[j]?=some (.int .u64 (l.getD j 0)):=by
 simp[qaF,List.getElem?_append,h]
theorem pad80_64_get0(l:List Int)(j:Nat)(h:l.length≤j)(h':j<80):(qaF l)[j]?=some (.int .u64 0):=by
 have:j-l.length<80-l.length:=by omega
 simp[qaF,List.getElem?_append,Nat.not_lt.2 h,this]
theorem pad80_64_set(l:List Int)(x:Int)(h:l.length<80):(qaF l).setIfInBounds l.length (.int .u64 x)=qaF (l++[x]):=by
 have e:80-l.length=(80-(l.length+1))+1:=by omega
 simp only[qaF,List.length_append,List.length_cons,List.length_nil,Nat.zero_add];rw[e,List.replicate_succ];simp[List.setIfInBounds_toArray,List.set_append]
theorem pad80_64_one(l:List Int)(h:l.length≤80):(qaF l).all (·.oneCell')=true:=by
 simp[qaF,Value.oneCell']
def rnd64(s:W8)(k w:Int):W8:=
 let x:=IntKind.u64.wrap (IntKind.u64.wrap (IntKind.u64.wrap (IntKind.u64.wrap (s.h+qfM s.e 14 18 41)+bits .xor .u64 (bits .and .u64 s.e s.f) (bits .and .u64 (bits .xor .u64 IntKind.u64.max s.e) s.g))+k)+w)
 let y:=IntKind.u64.wrap (qfM s.a 28 34 39+bits .xor .u64 (bits .xor .u64 (bits .and .u64 s.a s.b) (bits .and .u64 s.a s.c)) (bits .and .u64 s.b s.c))
 ⟨IntKind.u64.wrap (x+y),s.a,s.b,s.c,IntKind.u64.wrap (s.d+x),s.e,s.f,s.g⟩
def qeb(K W:Nat→Int)(s:W8):Nat→W8
 | 0=>s
 | n+1=>rnd64 (qeb K W s n) (K n) (W n)
def add64(s t:W8):W8:=⟨IntKind.u64.wrap (s.a+t.a),IntKind.u64.wrap (s.b+t.b),IntKind.u64.wrap (s.c+t.c),IntKind.u64.wrap (s.d+t.d),IntKind.u64.wrap (s.e+t.e),IntKind.u64.wrap (s.f+t.f),IntKind.u64.wrap (s.g+t.g),IntKind.u64.wrap (s.h+t.h)⟩
abbrev W8.cells64(s:W8):Array Value:=#[.int .u64 s.a,.int .u64 s.b,.int .u64 s.c,.int .u64 s.d,.int .u64 s.e,.int .u64 s.f,.int .u64 s.g,.int .u64 s.h]
def mix64(s t:W8)(k:Nat):Array Value:=((List.range 8).map fun j=>Value.int .u64 (if j<k then IntKind.u64.wrap (s.at j+t.at j) else s.at j)).toArray
theorem mix64_set(s t:W8)(k:Nat)(h:k<8):(mix64 s t k).setIfInBounds k (.int .u64 (IntKind.u64.wrap (s.at k+t.at k)))=mix64 s t (k+1):=by
 rcases lt8 h with rfl|rfl|rfl|rfl|rfl|rfl|rfl|rfl<;>rfl
theorem mix64_get(s t:W8)(k:Nat)(h:k<8):(mix64 s t k)[k]?=some (.int .u64 (s.at k)):=by
 rcases lt8 h with rfl|rfl|rfl|rfl|rfl|rfl|rfl|rfl<;>rfl
theorem mix64_eight(s t:W8):mix64 s t 8=(add64 s t).cells64:=rfl
def qdK(K:Nat→Int)(s:W8)(b:List UInt8):W8:=add64 s (qeb K (fun t=>(qa3 (qbg b) 64).getD t 0) s 80)
theorem info80_64:(Tryz.prog.info? 197).map (fun i=>(i.zero,i.size))=some (some (.agg (qaF [])),80):=by kernel_rfl
def PrmBt(W:World)(b:Nat):Prop:=W.heap[b]?=some (.cells #[.int .i64 128,.int .i64 80,.int .u64 1,.int .u64 8,.int .u64 7,.int .u64 19,.int .u64 61,.int .u64 6,.int .u64 14,.int .u64 18,.int .u64 41,.int .u64 28,.int .u64 34,.int .u64 39] 95 (0,0))
theorem PrmBt.cells{W:World}{b:Nat}(h:PrmBt W b):W.cell? ⟨b,0,none⟩=some (.int .i64 128)∧W.cell? ⟨b,1,none⟩=some (.int .i64 80)∧
  W.cell? ⟨b,2,none⟩=some (.int .u64 1)∧W.cell? ⟨b,3,none⟩=some (.int .u64 8)∧W.cell? ⟨b,4,none⟩=some (.int .u64 7)∧
  W.cell? ⟨b,5,none⟩=some (.int .u64 19)∧W.cell? ⟨b,6,none⟩=some (.int .u64 61)∧W.cell? ⟨b,7,none⟩=some (.int .u64 6)∧
  W.cell? ⟨b,8,none⟩=some (.int .u64 14)∧W.cell? ⟨b,9,none⟩=some (.int .u64 18)∧W.cell? ⟨b,10,none⟩=some (.int .u64 41)∧
  W.cell? ⟨b,11,none⟩=some (.int .u64 28)∧W.cell? ⟨b,12,none⟩=some (.int .u64 34)∧W.cell? ⟨b,13,none⟩=some (.int .u64 39):=by
 refine⟨?_,?_,?_,?_,?_,?_,?_,?_,?_,?_,?_,?_,?_,?_⟩<;>(rw[jco W b _ _ _ _ h];rfl)
theorem PrmBt.below{W W':World}{b B:Nat}(h:PrmBt W b)(hb:Below B W W')(z0:b<B):PrmBt W' b:=(hb.block b z0).trans h
theorem schedule64_any(s:ByteArray)(w:World)(hs:128≤s.size)(hs':s.size≤128):Rt 233 #[qcC,.string s] w (.agg (qaF (qa3 (qbg s.data.toList) 64))):=by
 unfold Rt;obtain⟨hz,hi⟩:=jzi info80_64;go_enter func233,ntmps233;go_wp2_with fail
 clear hz;have hP:=qah (o:=.cells (qaF []) 197) (qah (o:=.cells (qaF []) 197) (qad w (.cells #[.int .i64 128,.int .i64 80,.int .u64 1,.int .u64 8,.int .u64 7,.int .u64 19,.int .u64 61,.int .u64 6,.int .u64 14,.int .u64 18,.int .u64 41,.int .u64 28,.int .u64 34,.int .u64 39] 95)));have hR:=qah (o:=.cells (qaF []) 197) (qaz w (.cells #[.int .i64 128,.int .i64 80,.int .u64 1,.int .u64 8,.int .u64 7,.int .u64 19,.int .u64 61,.int .u64 6,.int .u64 14,.int .u64 18,.int .u64 41,.int .u64 28,.int .u64 34,.int .u64 39] 95) (.cells (qaF []) 197));have hA:=qby w (.cells #[.int .i64 128,.int .i64 80,.int .u64 1,.int .u64 8,.int .u64 7,.int .u64 19,.int .u64 61,.int .u64 6,.int .u64 14,.int .u64 18,.int .u64 41,.int .u64 28,.int .u64 34,.int .u64 39] 95) (.cells (qaF []) 197) (.cells (qaF []) 197);have hB:=qbd w (.cells #[.int .i64 128,.int .i64 80,.int .u64 1,.int .u64 8,.int .u64 7,.int .u64 19,.int .u64 61,.int .u64 6,.int .u64 14,.int .u64 18,.int .u64 41,.int .u64 28,.int .u64 34,.int .u64 39] 95) (.cells (qaF []) 197) (.cells (qaF []) 197);generalize (((w.alloc _).alloc _).alloc _)=W at *;replace hP:PrmBt W w.heap.size:=hP;generalize ze:w.heap.size=B at *;have zk:=hid ze;clear ze
 obtain⟨c0,c1,c2,c3,c4,c5,c6,c7,c8,c9,z5,z6,z7,z8⟩:=hP.cells;have k0:=jcr c0;have k1:=jcr c1;have k2:=jcr c2;have k3:=jcr c3;have k4:=jcr c4;have k5:=jcr c5;have k6:=jcr c6;have k7:=jcr c7;have k8:=jcr c8;have k9:=jcr c9;have zp:=jcr z5;have zq:=jcr z6;have zr:=jcr z7;have zs:=jcr z8;have HR:=hid hR;have HA:=hid hA;clear hR hA;refine qav (by kernel_rfl) (by kernel_rfl) ?_
 repeat (quiet_step (first|(go_at_call 197;exact Calls.regrown_of (wordBytes512 _))|(go_at_call 198;exact Calls.regrown_of (qfo _))))
 refine jqn ?_;intro W2 z3;clear k0 k1 k2 k3 k4 k5 k6 k7 k8 k9 zp zq zr zs c0 c1 c2 c3 c4 c5 c6 c7 c8 c9 z5 z6 z7 z8;have zh:=hP.below z3 (qac hP);have zi:=hkq HR z3;have zf:=hkq HA z3;have zd:Below B w W2:=hB.trans (z3.mono (jll (qac hP)));clear hP HR HA hB z3;go_wp2_with fail
 go_loopw [14] (fun i wr=>∃ k:Nat,k≤16∧i=.int .i64 k∧PrmBt wr B∧wr.heap[B+1]?=some (.cells (qaF []) 197)∧wr.heap[B+1+1]?=some (.cells (qaF ((qbg s.data.toList).take k)) 197)∧Below B w wr) (fun i _=>16-(intOf i).toNat)
 case atStart=>exact⟨0,Nat.zero_le _,rfl,zh,zi,zf,zd⟩
 case round=>
  obtain⟨k,hk,rfl,hp,hr,ha,hb⟩:=hrel;clear zh zi zf zd;have hl:((qbg s.data.toList).take k).length=k:=by simp[qcl];omega
  by_cases zg:k<16
  ·have z0:wr.cell? ⟨B+1+1,k,none⟩=some (.int .u64 0):=by rw[jco wr _ _ _ _ _ ha];exact pad80_64_get0 _ _ (by omega) (by omega)
   have z9:wr.frozen? ⟨B+1+1,k,none⟩=false:=jfr wr _ _ _ _ ha;have HP:=hid hp;have HR:=hid hr;have HA:=hid ha;have HL:=hid hl;clear hp hr ha hl;go_wp2_with fail;refine (load64_any _ _ (by simp[maxLen];omega)).mono ?_;rintro e w' ⟨rfl,rfl⟩;have HV:Hid ((k+1)*8-k*8=8):=hid (by omega);go_wp2_with fail;go_roundw
   case rel=>
    refine⟨k+1,by omega,by go_num,?_,?_,?_,hb.setCell (by simp;omega) _⟩
    ·exact (jso _ _ _ _ (by simp;omega)).trans HP.out
    ·exact (jso _ _ _ _ (by simp)).trans HR.out
    ·rw[wds64_snoc _ _ zg,HV.out];have e:=pad80_64_set ((qbg s.data.toList).take k) (ld64 ((s.data.toList.drop (k*8)).take 8)) (by rw[HL.out];omega);rw[HL.out]at e;rw[← e];exact heap_setCell_same _ _ _ _ _ _ HA.out
   case measure=>simp[intOf];omega
  ·have hd:decide ((k:Int)<16)=false:=by simp;omega
   have z4:(qbg s.data.toList).take k=qa3 (qbg s.data.toList) 0:=by rw[jtl (by rw[qcl];omega)];rfl
   rw[z4]at ha;clear z4 hl;have HP:=hid hp;have HR:=hid hr;have HA:=hid ha;clear hp hr ha;have zo:wr.cell? ⟨B,1,none⟩=some (.int .i64 80):=HP.out.cells.2.1;go_wp2_with fail;clear zo
   go_loopw [9] (fun i wr=>∃ t:Nat,16≤t∧t≤80∧i=.int .i64 t∧PrmBt wr B∧wr.heap[B+1]?=some (.cells (qaF []) 197)∧wr.heap[B+1+1]?=some (.cells (qaF (qa3 (qbg s.data.toList) (t-16))) 197)∧Below B w wr) (fun i _=>80-(intOf i).toNat)
   case atStart=>exact⟨16,jlr _,by omega,rfl,HP.out,HR.out,HA.out,hb⟩
   case round=>
    clear HP HR HA hb hd;obtain⟨t,ht,ht',rfl,hp,hr,ha,hb⟩:=hrel;obtain⟨c0,c1,c2,c3,c4,c5,c6,c7,c8,c9,z5,z6,z7,z8⟩:=hp.cells;clear c0 c8 c9 z5 z6 z7 z8;have hl:(qa3 (qbg s.data.toList) (t-16)).length=t:=by rw[qcS _ (qcl _)];omega
    have za:=qac ha;by_cases zg:t<80
    ·have hd:decide ((t:Int)<80)=true:=by simp;omega
     have z0:∀ j,j<t→wr.cell? ⟨B+1+1,j,none⟩=some (.int .u64 ((qa3 (qbg s.data.toList) (t-16)).getD j 0)):=fun j hj=>by rw[jco wr _ _ _ _ _ ha];exact pad80_64_get _ _ (by omega)
     have zc:=z0 (t-16) (by omega);have d7:=z0 (t-7) (by omega);have zb:=z0 (t-15) (by omega);have d2:=z0 (t-2) (by omega);have dt:wr.cell? ⟨B+1+1,t,none⟩=some (.int .u64 0):=by rw[jco wr _ _ _ _ _ ha];exact pad80_64_get0 _ _ (by omega) (by omega)
     have z9:wr.frozen? ⟨B+1+1,t,none⟩=false:=jfr wr _ _ _ _ ha;have he:ext64 (qa3 (qbg s.data.toList) (t-16)) t=IntKind.u64.wrap (IntKind.u64.wrap (IntKind.u64.wrap ((qa3 (qbg s.data.toList) (t-16)).getD (t-16) 0+(qa3 (qbg s.data.toList) (t-16)).getD (t-7) 0)+qet ((qa3 (qbg s.data.toList) (t-16)).getD (t-15) 0) 1 8 7)+qet ((qa3 (qbg s.data.toList) (t-16)).getD (t-2) 0) 19 61 6):=rfl;generalize (qa3 (qbg s.data.toList) (t-16)).getD (t-16) 0=x16 at *;generalize (qa3 (qbg s.data.toList) (t-16)).getD (t-7) 0=x7 at *;generalize (qa3 (qbg s.data.toList) (t-16)).getD (t-15) 0=x15 at *;generalize (qa3 (qbg s.data.toList) (t-16)).getD (t-2) 0=x2 at *;have HP:=hid hp;have HR:=hid hr;have HA:=hid ha;have HL:=hid hl;have HE:=hid he;clear hp hr ha hl z0 he;go_wp2_with fail;have zu:=jcr zc;have k7:=jcr d7;have zt:=jcr zb;have k2:=jcr d2;have m2:=jcr c2;have m3:=jcr c3;have m4:=jcr c4;have m5:=jcr c5;have m6:=jcr c6;have m7:=jcr c7;refine qak 29 (by kernel_rfl) (by kernel_rfl) ?_;simp only[List.take_succ_cons,List.take_zero,List.drop_succ_cons,List.drop_zero]
     repeat (first|go_big_quiet_step ((go_at_call 241;exact Calls.regrown_of (shifted64_any _ _ _ _ _ (by omega) (by omega) (by omega) (by omega) (by omega) (by omega))))|quiet_step ((go_at_call 241;exact Calls.regrown_of (shifted64_any _ _ _ _ _ (by omega) (by omega) (by omega) (by omega) (by omega) (by omega)))))
     refine jqn ?_;intro W3 z2;clear zu k7 zt k2 m2 m3 m4 m5 m6 m7;have dt3:W3.cell? ⟨B+1+1,t,none⟩=some (.int .u64 0):=(z2.cell (by simpa using za)).trans dt;have hfz3:W3.frozen? ⟨B+1+1,t,none⟩=false:=(z2.frozen (by simpa using za)).trans z9;have hsz3:=z2.size;have zn:Below B w W3:=hb.trans (z2.mono (by omega));have zl:=hid (HP.out.below z2 (by omega));have zm:=hid (qap z2 (by omega) HR.out);have zj:=hid (qap z2 za HA.out);clear HP HR HA zc d7 zb d2 dt z9 z2 hb c1 c2 c3 c4 c5 c6 c7;go_wp2_with fail;go_roundw
     case rel=>
      refine⟨t+1,by omega,by omega,by go_num,?_,?_,?_,zn.setCell (by simp;omega) _⟩
      ·exact (jso _ _ _ _ (by simp;omega)).trans zl.out
      ·exact (jso _ _ _ _ (by simp)).trans zm.out
      ·have e:=pad80_64_set (qa3 (qbg s.data.toList) (t-16)) (ext64 (qa3 (qbg s.data.toList) (t-16)) t) (by rw[HL.out];omega);rw[HL.out]at e;have e2:qa3 (qbg s.data.toList) (t+1-16)=qa3 (qbg s.data.toList) (t-16)++[ext64 (qa3 (qbg s.data.toList) (t-16)) t]:=by
        rw[show t+1-16=(t-16)+1 by omega,qa3,show 16+(t-16)=t by omega]
       rw[e2,← e];refine (heap_setCell_same _ _ _ _ _ _ zj.out).trans ?_;rw[HE.out]
     case measure=>simp[intOf];omega
    ·have hd:decide ((t:Int)<80)=false:=by simp;omega
     obtain rfl:t=80:=by omega
     have HP:=hid hp;have HR:=hid hr;have HA:=hid ha;have z1:(qa3 (qbg s.data.toList) (80-16)).length≤80:=by rw[qcS _ (qcl _)];omega
     have HI:=hid (show (Tryz.prog.info? 197).map (·.size)=some (qaF (qa3 (qbg s.data.toList) (80-16))).size from by rw[qdz _ z1];exact hi);have HO:=hid (show (qaF []).size=(qaF (qa3 (qbg s.data.toList) (80-16))).size from by rw[qdz _ z1,qdz _ (by simp)]);have H1:=hid (pad80_64_one _ z1);clear hp hr ha hl c2 c3 c4 c5 c6 c7 hi z1;go_wp2_with (first
      | (with_reducible refine jlw rfl 197 _ rfl (B+1+1) rfl 197 _ (0,0) (.array 80 57) HA.out underlying197 rfl HI.out ?_)
      | (with_reducible refine jsr rfl 197 _ _ rfl (B+1) (qaF (qa3 (qbg s.data.toList) (80-16))) rfl rfl 197 _ HR.out HI.out HO.out H1.out ?_))
     exact jpr (v:=.agg (qaF (qa3 (qbg s.data.toList) (80-16)))) (jrc (by rfl) _ _ (B+1) 197 _ (0,0) (.array 80 57) rfl (jsh _ _ _ _ _ _ HR.out) underlying197 rfl HI.out) rfl ⟨rfl,by rw[zk.out];exact jbr hb (by omega) _⟩
theorem info8_64:(Tryz.prog.info? 175).map (fun i=>(i.zero,i.size))=some (some (.agg #[.int .u64 0,.int .u64 0,.int .u64 0,.int .u64 0,.int .u64 0,.int .u64 0,.int .u64 0,.int .u64 0]),8):=by kernel_rfl
theorem index8_64(s:W8)(w:World)(k:Nat)(h:k<8):(Instr.index 175 (.agg s.cells64) (.int .i64 (k:Int))).run Tryz.prog w=.ok (.int .u64 (s.at k)) w:=by
 rcases lt8 h with rfl|rfl|rfl|rfl|rfl|rfl|rfl|rfl<;>kernel_rfl
structure CInv64 (K:Nat→Int) (w W:World) (B G:Nat) (S ws:Array Value):Prop where
 prm:PrmBt W B
 row:W.heap[B+1]?=some (.cells S 175)
 res:W.heap[B+1+1]?=some (.cells #[.int .u64 0,.int .u64 0,.int .u64 0,.int .u64 0,.int .u64 0,.int .u64 0,.int .u64 0,.int .u64 0] 175)
 wds:W.heap[G]?=some (.cells ws 197)
 tab:TabK W K
 low:3 < B
 bel:Below B w W
 lt:B+1+1<G
theorem CInv64.step{K:Nat→Int}{w W W':World}{B G:Nat}{S ws:Array Value}(h:CInv64 K w W B G S ws)(hb:Below W.heap.size W W'):CInv64 K w W' B G S ws:=
 ⟨h.prm.below hb (qac h.prm),qap hb (qac h.row) h.row,qap hb (qac h.res) h.res,qap hb (qac h.wds) h.wds,h.tab.below hb h.tab.lt,h.low,
  h.bel.trans (hb.mono (jll (qac h.prm))),h.lt⟩
theorem CInv64.state{K:Nat→Int}{w W:World}{B G:Nat}{st:W8}{ws:Array Value}(h:CInv64 K w W B G st.cells64 ws):W.cell? ⟨B+1,0,none⟩=some (.int .u64 st.a)∧W.cell? ⟨B+1,1,none⟩=some (.int .u64 st.b)∧W.cell? ⟨B+1,2,none⟩=some (.int .u64 st.c)∧W.cell? ⟨B+1,3,none⟩=some (.int .u64 st.d)∧
  W.cell? ⟨B+1,4,none⟩=some (.int .u64 st.e)∧W.cell? ⟨B+1,5,none⟩=some (.int .u64 st.f)∧W.cell? ⟨B+1,6,none⟩=some (.int .u64 st.g)∧W.cell? ⟨B+1,7,none⟩=some (.int .u64 st.h):=by
 refine⟨?_,?_,?_,?_,?_,?_,?_,?_⟩<;>(rw[jco W _ _ _ _ _ h.row];rfl)
set_option maxRecDepth 100000 in
theorem qcO(K:Nat→Int)(st:W8)(s:ByteArray)(w:World)(hs:128≤s.size)(zr:s.size≤128)(hK:TabK w K):Rt 222 #[qcC,.agg st.cells64,.string s] w (.agg (qdK (fun t=>K t) st s.data.toList).cells64):=by
 unfold Rt;have Hz:=hid (jzi info80_64);go_enter func222,ntmps222;go_wp2_with fail;have hP:=qah (o:=.cells #[.int .u64 0,.int .u64 0,.int .u64 0,.int .u64 0,.int .u64 0,.int .u64 0,.int .u64 0,.int .u64 0] 175) (qah (o:=.cells st.cells64 175) (qad w (.cells #[.int .i64 128,.int .i64 80,.int .u64 1,.int .u64 8,.int .u64 7,.int .u64 19,.int .u64 61,.int .u64 6,.int .u64 14,.int .u64 18,.int .u64 41,.int .u64 28,.int .u64 34,.int .u64 39] 95)));have hR:=qah (o:=.cells #[.int .u64 0,.int .u64 0,.int .u64 0,.int .u64 0,.int .u64 0,.int .u64 0,.int .u64 0,.int .u64 0] 175) (qaz w (.cells #[.int .i64 128,.int .i64 80,.int .u64 1,.int .u64 8,.int .u64 7,.int .u64 19,.int .u64 61,.int .u64 6,.int .u64 14,.int .u64 18,.int .u64 41,.int .u64 28,.int .u64 34,.int .u64 39] 95) (.cells st.cells64 175));have hA:=qby w (.cells #[.int .i64 128,.int .i64 80,.int .u64 1,.int .u64 8,.int .u64 7,.int .u64 19,.int .u64 61,.int .u64 6,.int .u64 14,.int .u64 18,.int .u64 41,.int .u64 28,.int .u64 34,.int .u64 39] 95) (.cells st.cells64 175) (.cells #[.int .u64 0,.int .u64 0,.int .u64 0,.int .u64 0,.int .u64 0,.int .u64 0,.int .u64 0,.int .u64 0] 175)
 have hB:=qbd w (.cells #[.int .i64 128,.int .i64 80,.int .u64 1,.int .u64 8,.int .u64 7,.int .u64 19,.int .u64 61,.int .u64 6,.int .u64 14,.int .u64 18,.int .u64 41,.int .u64 28,.int .u64 34,.int .u64 39] 95) (.cells st.cells64 175) (.cells #[.int .u64 0,.int .u64 0,.int .u64 0,.int .u64 0,.int .u64 0,.int .u64 0,.int .u64 0,.int .u64 0] 175);generalize (((w.alloc _).alloc _).alloc _)=W at *;have zf:=hK.lt;have zc:=hK.below hB zf;generalize zi:w.heap.size=B at *;have zp:=hid zi;clear zi hK;refine (schedule64_any s _ hs zr).mono ?_;rintro e w1⟨rfl,z5⟩;have za:(qa3 (qbg s.data.toList) 64).length=80:=by rw[qcS _ (qcl _)]
 have HC:=hid (show qdK (fun t=>K t) st s.data.toList=add64 st (qeb (fun t=>K t) (fun t=>(qa3 (qbg s.data.toList) 64).getD t 0) st 80) from rfl);generalize z8:qdK (fun t=>K t) st s.data.toList=out at *;have zb:=hid z8;clear z8;generalize qa3 (qbg s.data.toList) 64=ws at *;have zg:=qdz ws (by omega);have hi:=Hz.out.2;have HI:=hid (show (Tryz.prog.info? 197).map (·.size)=some (qaF ws).size from by rw[zg];exact hi);have HO:=hid (show (qaF []).size=(qaF ws).size from by rw[zg,qdz _ (by simp)]);have H1:=hid (pad80_64_one ws (by omega));have hz:=Hz.out.1;have HL:=hid za;clear zg hi za;have zd:=qap z5 (qac hA) hA;have z9:CInv64 K w ((w1.alloc (.cells (qaF []) 197)).setRow w1.heap.size (qaF ws)) B w1.heap.size st.cells64 (qaF ws):=by
  have l1:=qac zd;have ne:∀ k,k<B+1+1+1→k≠w1.heap.size:=fun k hk=>by omega
  refine⟨?_,?_,?_,?_,?_,by omega,?_,by omega⟩
  ·exact (jro _ _ _ _ (ne _ (by omega))).trans (qah (qap z5 (qac hP) hP))
  ·exact (jro _ _ _ _ (ne _ (by omega))).trans (qah (qap z5 (qac hR) hR))
  ·exact (jro _ _ _ _ (ne _ (by omega))).trans (qah zd)
  ·exact jsh _ _ _ _ _ _ (qad w1 _)
  ·have h1:=zc.below z5 zc.lt;exact fun t ht=>(cell_setRow_other _ _ _ _ (by simp;omega)).trans ((qaf w1 _).cell (by simp;omega) |>.trans (h1 t ht))
  ·exact jbr ((hB.trans (z5.mono (jll (qac hP)))).alloc (by omega) _) (by omega) _
 have HG:=hid (qad w1 (.cells (qaF []) 197));clear hP hR hA hB z5 zc zd;go_wp2_with (with_reducible refine jsr rfl 197 _ _ rfl w1.heap.size (qaF ws) rfl rfl 197 _ HG.out HI.out HO.out H1.out ?_);clear Hz HG HI HO H1 hz;generalize (w1.alloc (.cells (qaF []) 197)).setRow w1.heap.size (qaF ws)=W2 at *;generalize w1.heap.size=G at *;simp only[Act.put];have HV:=hid z9;clear z9
 -- the bits of a word,and how many are left out
 ·obtain⟨c0,c1,c2,c3,c4,c5,c6,c7,c8,c9,z0,z2,z3,z4⟩:=HV.out.prm.cells;have k0:=jcr c0;have k1:=jcr c1;have k2:=jcr c2;have k3:=jcr c3;have k4:=jcr c4;have k5:=jcr c5;have k6:=jcr c6;have k7:=jcr c7;have k8:=jcr c8;have k9:=jcr c9;have zh:=jcr z0;have zs:=jcr z2;have zt:=jcr z3;have zu:=jcr z4;refine qav (by kernel_rfl) (by kernel_rfl) ?_
  repeat (quiet_step (first|(go_at_call 194;exact Calls.regrown_of (unused512 _))|(go_at_call 198;exact Calls.regrown_of (qfo _))))
  refine jqn ?_;intro W3 zj;replace HV:=hid (HV.out.step zj);clear k0 k1 k2 k3 k4 k5 k6 k7 k8 k9 zh zs zt zu c0 c1 c2 c3 c4 c5 c6 c7 c8 c9 z0 z2 z3 z4 zj;go_wp2_with fail
  -- the words of the state
  obtain⟨c0,c1,c2,c3,c4,c5,c6,c7⟩:=HV.out.state;have k0:=jcr c0;have k1:=jcr c1;have k2:=jcr c2;have k3:=jcr c3;refine qav (by kernel_rfl) (by kernel_rfl) ?_
  repeat (first|go_big_quiet_step (fail)|quiet_step (fail))
  refine jqn ?_;intro W4 zk;replace HV:=hid (HV.out.step zk);clear k0 k1 k2 k3 c0 c1 c2 c3 c4 c5 c6 c7 zk;go_wp2_with fail;obtain⟨c0,c1,c2,c3,c4,c5,c6,c7⟩:=HV.out.state;have k4:=jcr c4;have k5:=jcr c5;have k6:=jcr c6;have k7:=jcr c7;refine qav (by kernel_rfl) (by kernel_rfl) ?_
  repeat (first|go_big_quiet_step (fail)|quiet_step (fail))
  refine jqn ?_;intro W5 zl;replace HV:=hid (HV.out.step zl);clear k4 k5 k6 k7 c0 c1 c2 c3 c4 c5 c6 c7 zl;have c1:=HV.out.prm.cells.2.1;go_wp2_with fail;clear c1
  go_loopw [10,11,12,13,14,15,16,17,49] (fun a b c d e f g h i wr=>∃ (t:Nat) (r:W8),t≤80∧i=.int .i64 t∧Hid (qeb (fun t=>K t) (fun t=>ws.getD t 0) st t=r)∧
    a=.int .u64 r.a∧b=.int .u64 r.b∧c=.int .u64 r.c∧d=.int .u64 r.d∧e=.int .u64 r.e∧f=.int .u64 r.f∧g=.int .u64 r.g∧h=.int .u64 r.h∧CInv64 K w wr B G st.cells64 (qaF ws)) (fun _ _ _ _ _ _ _ _ i _=>80-(intOf i).toNat)
  case atStart=>exact⟨0,st,by omega,rfl,hid rfl,rfl,rfl,rfl,rfl,rfl,rfl,rfl,rfl,HV.out⟩
  case round=>
   clear HV;obtain⟨t,⟨xa,xb,xc,xd,xe,xf,xg,xh⟩,ht,rfl,HR,rfl,rfl,rfl,rfl,rfl,rfl,rfl,rfl,hv⟩:=hrel;have HV:=hid hv;clear hv;by_cases hlt:t<80
   ·have hd:decide ((t:Int)<80)=true:=by simp;omega
    have ck:=HV.out.tab t (by omega);have cw:wr.cell? ⟨G,t,none⟩=some (.int .u64 (ws.getD t 0)):=by rw[jco wr _ _ _ _ _ HV.out.wds];exact pad80_64_get _ _ (by have:=HL.out;omega)
    obtain⟨c0,c1,c2,c3,c4,c5,c6,c7,c8,c9,z0,z2,z3,z4⟩:=HV.out.prm.cells;clear c0 c1 c2 c3 c4 c5 c6 c7;have HS:=hid (show qeb (fun t=>K t) (fun t=>ws.getD t 0) st (t+1)=rnd64 ⟨xa,xb,xc,xd,xe,xf,xg,xh⟩ (K t) (ws.getD t 0) from by rw[qeb,HR.out]);generalize ws.getD t 0=xw at *;generalize K t=xk at *;go_wp2_with fail;have k8:=jcr c8;have k9:=jcr c9;have zh:=jcr z0;have kw:=jcr cw;refine qav (by kernel_rfl) (by kernel_rfl) ?_
    repeat (first|go_big_quiet_step ((go_at_call 234;exact Calls.regrown_of (qeK _ _ _ _ _ (by omega) (by omega) (by omega) (by omega) (by omega) (by omega))))|quiet_step ((go_at_call 234;exact Calls.regrown_of (qeK _ _ _ _ _ (by omega) (by omega) (by omega) (by omega) (by omega) (by omega)))))
    refine jqn ?_;intro W6 zm;replace HV:=hid (HV.out.step zm);clear ck cw c8 c9 z0 z2 z3 z4 k8 k9 zh kw zm;obtain⟨c0,c1,c2,c3,c4,c5,c6,c7,c8,c9,z0,z2,z3,z4⟩:=HV.out.prm.cells;clear c0 c1 c2 c3 c4 c5 c6 c7 c8 c9 z0;go_wp2_with fail;refine (qeK _ _ _ _ _ (by omega) (by omega) (by omega) (by omega) (by omega) (by omega)).mono ?_;rintro e W7⟨rfl,zn⟩;replace HV:=hid (HV.out.step zn);clear z2 z3 z4 zn;go_wp2_with fail;go_roundw
    case rel=>
     refine⟨t+1,rnd64 ⟨xa,xb,xc,xd,xe,xf,xg,xh⟩ xk xw,by omega,by go_num,HS,?_,rfl,rfl,rfl,?_,rfl,rfl,rfl,HV.out⟩
     ·simp only[rnd64]
     ·simp only[rnd64]
    case measure=>simp[intOf];omega
   ·have hd:decide ((t:Int)<80)=false:=by simp;omega
    obtain rfl:t=80:=by omega
    go_wp2_with fail;have HX:=hid (index8_64 ⟨xa,xb,xc,xd,xe,xf,xg,xh⟩)
    go_loopw [118] (fun i wr=>∃ k:Nat,k≤8∧i=.int .i64 k∧CInv64 K w wr B G (mix64 st ⟨xa,xb,xc,xd,xe,xf,xg,xh⟩ k) (qaF ws)) (fun i _=>8-(intOf i).toNat)
    case atStart=>exact⟨0,by omega,rfl,HV.out⟩
    case round=>
     clear HV hd;obtain⟨k,hk,rfl,hv⟩:=hrel;have HV:=hid hv;clear hv;by_cases ze:k<8
     ·have hd:decide ((k:Int)<8)=true:=by simp;omega
      have hix:∀ w,(Instr.index 175 (.agg #[.int .u64 xa,.int .u64 xb,.int .u64 xc,.int .u64 xd,.int .u64 xe,.int .u64 xf,.int .u64 xg,.int .u64 xh]) (.int .i64 (k:Int))).run Tryz.prog w=.ok (.int .u64 (W8.at ⟨xa,xb,xc,xd,xe,xf,xg,xh⟩ k)) w:=fun w=>HX.out w k ze;have cs:wr.cell? ⟨B+1,k,none⟩=some (.int .u64 (st.at k)):=by rw[jco wr _ _ _ _ _ HV.out.row];exact mix64_get _ _ _ ze
      have fs:wr.frozen? ⟨B+1,k,none⟩=false:=jfr wr _ _ _ _ HV.out.row;go_wp2_with fail;go_roundw
      case rel=>
       refine⟨k+1,by omega,by go_num,?_⟩;have h:=HV.out;have l1:=h.lt;have l0:=h.low;refine⟨?_,?_,?_,?_,?_,l0,h.bel.setCell (by simp) _,l1⟩
       ·exact (jso _ _ _ _ (by simp)).trans h.prm
       ·rw[← mix64_set _ _ _ ze];exact heap_setCell_same _ _ _ _ _ _ h.row
       ·exact (jso _ _ _ _ (by simp)).trans h.res
       ·exact (jso _ _ _ _ (by simp;omega)).trans h.wds
       ·exact fun t ht=>(World.cell?_setCell_far _ _ _ _ (by simp;omega)).trans (h.tab t ht)
      case measure=>simp[intOf];omega
     ·have hd:decide ((k:Int)<8)=false:=by simp;omega
      obtain rfl:k=8:=by omega
      have z1:=HV.out.row;rw[mix64_eight]at z1;have z7:=hid z1;have z6:=hid HV.out.res;have HI:=hid (show (Tryz.prog.info? 175).map (·.size)=some out.cells64.size from (jzi info8_64).2);have zq:=hid (show (#[.int .u64 0,.int .u64 0,.int .u64 0,.int .u64 0,.int .u64 0,.int .u64 0,.int .u64 0,.int .u64 0]:Array Value).size=out.cells64.size from rfl);have zo:=hid (show out.cells64.all (·.oneCell')=true from by simp[Value.oneCell']);have HO:Hid (out=add64 st ⟨xa,xb,xc,xd,xe,xf,xg,xh⟩):=hid (by rw[HC.out,HR.out]);rw[← HO.out]at z7;clear z1 hd;go_wp2_with (first
       | (with_reducible refine jlw rfl 175 _ rfl (B+1) rfl 175 _ (0,0) (.array 8 57) z7.out underlying175 rfl HI.out ?_)
       | (with_reducible refine jsr rfl 175 _ _ rfl (B+1+1) out.cells64 rfl rfl 175 _ z6.out HI.out zq.out zo.out ?_))
      exact jpr (v:=.agg out.cells64) (jrc (by rfl) _ _ (B+1+1) 175 _ (0,0) (.array 8 57) rfl (jsh _ _ _ _ _ _ z6.out) underlying175 rfl HI.out) rfl ⟨by rw[zb.out],by rw[zp.out];exact jbr HV.out.bel (by omega) _⟩
end
end Go.Proofs.YteomfleofeeofaaGreatDoor
