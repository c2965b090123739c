/- A running digest of words of 32 bits in memory. -/
import Derived.Test.YteomfleofeeofaaGreatDoorShaA
namespace Go.Proofs.YteomfleofeeofaaGreatDoor
open Go.Lib (hid)
open _root_.List (take_succ_cons drop_succ_cons)
set_option maxHeartbeats 16000000
open Go.Proofs.Tryz
set_option maxRecDepth 100000
set_option linter.unusedSimpArgs false
set_option linter.unusedVariables false
section
open Go.RowKit Go.Sort
def rc32(pre post:List Value)(st:W8)(rest:ByteArray)(len:Int):Array Value:=
 (pre++(Value.int .u32 st.a :: Value.int .u32 st.b :: Value.int .u32 st.c :: Value.int .u32 st.d :: Value.int .u32 st.e :: Value.int .u32 st.f :: Value.int .u32 st.g :: Value.int .u32 st.h :: Value.string rest :: Value.int .u64 len :: post)).toArray
theorem qgN(pre post:List Value)(st:W8)(rest:ByteArray)(len:Int)(j:Nat)(hj:j<8):(rc32 pre post st rest len)[pre.length+j]?=some (.int .u32 (st.at j)):=by
 rcases lt8 hj with rfl|rfl|rfl|rfl|rfl|rfl|rfl|rfl<;>simp[rc32,W8.at]
theorem rc32_rest(pre post:List Value)(st:W8)(rest:ByteArray)(len:Int):(rc32 pre post st rest len)[pre.length+8]?=some (.string rest):=by
 simp[rc32]
theorem rc32_len(pre post:List Value)(st:W8)(rest:ByteArray)(len:Int):(rc32 pre post st rest len)[pre.length+9]?=some (.int .u64 len):=by
 simp[rc32]
theorem rc32_setLen(pre post:List Value)(st:W8)(rest:ByteArray)(len x:Int):(rc32 pre post st rest len).setIfInBounds (pre.length+9) (.int .u64 x)=rc32 pre post st rest x:=by
 simp[rc32,List.set_append]
theorem rc32_setRest(pre post:List Value)(st:W8)(rest x:ByteArray)(len:Int):(rc32 pre post st rest len).setIfInBounds (pre.length+8) (.string x)=rc32 pre post st x len:=by
 simp[rc32,List.set_append]
theorem rc32_setState{w:World}{b:Nat}{ty:TypeId}(pre post:List Value)(st z0:W8)(rest:ByteArray)(len:Int)(h:w.heap[b]?=some (.cells (rc32 pre post st rest len) ty)):(w.setCells b pre.length z0.cells32.toList).heap[b]?=some (.cells (rc32 pre post z0 rest len) ty):=by
 rw[show z0.cells32.toList=[.int .u32 z0.a,.int .u32 z0.b,.int .u32 z0.c,.int .u32 z0.d,.int .u32 z0.e,.int .u32 z0.f,.int .u32 z0.g,.int .u32 z0.h] from rfl];simp only[World.setCells];have h0:=heap_setCell_same w b pre.length _ ty (.int .u32 z0.a) h;have h1:=heap_setCell_same _ b (pre.length+1) _ ty (.int .u32 z0.b) h0;have h2:=heap_setCell_same _ b (pre.length+1+1) _ ty (.int .u32 z0.c) h1;have h3:=heap_setCell_same _ b (pre.length+1+1+1) _ ty (.int .u32 z0.d) h2;have h4:=heap_setCell_same _ b (pre.length+1+1+1+1) _ ty (.int .u32 z0.e) h3;have h5:=heap_setCell_same _ b (pre.length+1+1+1+1+1) _ ty (.int .u32 z0.f) h4;have h6:=heap_setCell_same _ b (pre.length+1+1+1+1+1+1) _ ty (.int .u32 z0.g) h5;have h7:=heap_setCell_same _ b (pre.length+1+1+1+1+1+1+1) _ ty (.int .u32 z0.h) h6;rw[h7];simp[rc32,List.set_append,Nat.add_assoc]
def qcZ(K:Nat→Int)(st:W8)(l:List UInt8):Nat→W8
 | 0=>st
 | n+1=>qdJ K (qcZ K st l n) ((l.drop (64*n)).take 64)
theorem fold32_succ(K:Nat→Int)(st:W8)(l:List UInt8)(n:Nat):qcZ K st l (n+1)=qcZ K (qdJ K st (l.take 64)) (l.drop 64) n:=by
 induction n with
 | zero=>simp[qcZ]
 | succ n ih=>
  rw[qcZ,ih,qcZ,List.drop_drop,show 64+64*n=64*(n+1) by omega]
def qcE(l:List UInt8):List UInt8:=l.drop (64*(l.length/64))
def qb8(K:Nat→Int)(st:W8)(l:List UInt8):W8:=qcZ K st l (l.length/64)
theorem qeA(K:Nat→Int)(st:W8)(l:List UInt8)(h:l.length<64):qb8 K st l=st∧qcE l=l:=by
 have:l.length/64=0:=by omega
 simp[qb8,qcE,this,qcZ]
theorem qd6(K:Nat→Int)(st:W8)(l:List UInt8)(h:64≤l.length):qb8 K st l=qb8 K (qdJ K st (l.take 64)) (l.drop 64)∧qcE l=qcE (l.drop 64):=by
 have e:l.length/64=(l.length-64)/64+1:=by omega
 constructor
 ·unfold qb8;rw[e,fold32_succ,List.length_drop]
 ·unfold qcE;rw[List.drop_drop,List.length_drop];congr 1;omega
theorem tail64_length(l:List UInt8):(qcE l).length<64:=by
 unfold qcE;rw[List.length_drop];omega
end
section
open Go.RowKit
set_option maxRecDepth 100000 in
theorem liteClone_any(s:ByteArray)(w:World)(hlim:s.size≤1099511627776):Rt 214 #[.string s] w (.string s):=by
 unfold Rt;by_cases h0:s.size=0
 ·have hs:s=⟨#[]⟩:=by
   apply ByteArray.ext;exact Array.eq_empty_of_size_eq_zero h0
  subst hs;go_enter func214,ntmps214;go_wp2;go_ret;exact⟨rfl,Below.refl _ _⟩
 ·obtain⟨i0,hi,za,z1,zb⟩:=info_parts qca;have z0:(Tryz.prog.info? 5).map (·.size)=some 1:=by rw[hi];simp[z1]
  have z7:Tryz.prog.cellsOf 5=1:=by simp[Program.cellsOf,hi,z1]
  obtain⟨M,hM⟩:∃ M,M=madeCells (Value.int .u8 0).cells (((s.size:Nat):Int).toNat*i0.size):=⟨_,rfl⟩;have hMs:M.size=s.size:=by rw[hM,size_madeCells,z1];simp
  have hmk:∀ W:World,(Instr.makeSlice 41 (.int .i64 (s.size:Int)) (.int .i64 (s.size:Int))).run Tryz.prog W=.ok (.slice (some ⟨W.heap.size,0,none⟩) s.size s.size) (W.alloc (.cells M 5)):=fun W=>by
   have h:=run_make (P:=Tryz.prog) W 41 5 i0 (.int .u8 0) underlying41 hi za .i64 .i64 (s.size:Int) (s.size:Int) (by omega) (by omega) (by rw[zb];omega) (by omega);rw[← hM]at h;simpa using h
  clear hM;have z8:=Lib.run_copy_row_string (P:=Tryz.prog) (w.alloc (.cells M 5)) 41 9 3 5 w.heap.size 0 s.size s.size s M 5 underlying41 z0 (qad w _) (jlr _) (by omega);obtain⟨Y,hY⟩:∃ Y,Y=(M.toList.take 0++Lib.byteCells s.data.toList++M.toList.drop (0+s.size)).toArray:=⟨_,rfl⟩;rw[← hY]at z8;have z2:Y.toList=Lib.byteCells s.data.toList:=by
   rw[hY,List.toList_toArray,List.take_zero,List.nil_append,List.drop_of_length_le (by rw[Array.length_toList];omega),List.append_nil]
  have hYs:Y.size=s.size:=by rw[← Array.length_toList,z2,Lib.byteCells_length,← Lib.size_eq]
  have z3:((w.alloc (.cells M 5)).setRow w.heap.size Y).heap[w.heap.size]?=some (.cells Y 5 (0,0)):=jsh _ _ M _ 5 (0,0) (qad w _);have z9:s.data.toList≠[]:=fun e=>h0 (by rw[Lib.size_eq,e];rfl);have z4:=Lib.run_unsafeString_row (P:=Tryz.prog) ((w.alloc (.cells M 5)).setRow w.heap.size Y) 190 3 9 5 underlying190 z7 w.heap.size Y.size (by unfold World.shape?;rw[z3]) s.data.toList z9 (by rw[← Lib.size_eq];omega) (by rw[← Lib.size_eq];omega)
   (fun j x hx=>Lib.cells_of_row z3 Y.size j _ (by rw[jtl (by rw[Array.length_toList];exact jlr _),z2];simp[Lib.byteCells,hx]))
  rw[← Lib.size_eq]at z4;clear hY;go_enter func214,ntmps214;go_wp2;go_ret;have z5:Below w.heap.size w (w.alloc (.cells M 5)):=qaf w _;have z6:Below w.heap.size (w.alloc (.cells M 5)) ((w.alloc (.cells M 5)).setRow w.heap.size Y):=⟨rfl,rfl,rfl,by simp,fun k hk=>jro _ _ _ _ (by omega)⟩;exact⟨rfl,Lib.below_freeze (z5.trans z6) (p:=⟨w.heap.size,0,none⟩) (jlr _) _⟩
set_option maxRecDepth 100000 in
theorem qek(s:ByteArray)(w:World)(z0:s.size≤1099511627776):Rt 181 #[.string s] w (.string s):=by
 unfold Rt;go_enter func181,ntmps181;go_wp2_with (go_at_call 214;refine (liteClone_any _ _ z0).mono ?_;rintro e w' ⟨rfl,hb⟩);go_ret;exact⟨rfl,hb⟩
end
section
open Go.RowKit Go.Sort
structure WInv32 (K:Nat→Int) (b Bp:Nat) (ty:TypeId) (pre post:List Value) (w W:World) (st:W8) (rest:ByteArray) (len:Int):Prop where
 prm:PrmAt W Bp
 run:W.heap[b]?=some (.cells (rc32 pre post st rest len) ty)
 tab:TabK W K
 but:But b w W
 ne:b≠Bp
 nk:b≠3
section
variable {K : Nat → Int} {b Bp : Nat} {ty : TypeId} {pre post : List Value} {w W W' : World} {st : W8} {rest : ByteArray} {len : Int}
theorem WInv32.step(h:WInv32 K b Bp ty pre post w W st rest len)(hb:Below W.heap.size W W'):WInv32 K b Bp ty pre post w W' st rest len:=
 ⟨h.prm.below hb (qac h.prm),qap hb (qac h.run) h.run,h.tab.below hb h.tab.lt,h.but.trans (.of_below hb),h.ne,h.nk⟩
theorem WInv32.setLen(h:WInv32 K b Bp ty pre post w W st rest len)(x:Int):WInv32 K b Bp ty pre post w (W.setCell ⟨b,pre.length+9,none⟩ (.int .u64 x)) st rest x:=
 ⟨(jso _ _ _ _ (by simpa using h.ne.symm)).trans h.prm,by rw[← rc32_setLen pre post st rest len x];exact heap_setCell_same _ _ _ _ _ _ h.run,
  fun t ht=>(World.cell?_setCell_far _ _ _ _ (by simpa using h.nk)).trans (h.tab t ht),h.but.trans (.setCell b _ _ _ rfl),h.ne,h.nk⟩
theorem WInv32.setRest(h:WInv32 K b Bp ty pre post w W st rest len)(x:ByteArray):WInv32 K b Bp ty pre post w (W.setCell ⟨b,pre.length+8,none⟩ (.string x)) st x len:=
 ⟨(jso _ _ _ _ (by simpa using h.ne.symm)).trans h.prm,by rw[← rc32_setRest pre post st rest x len];exact heap_setCell_same _ _ _ _ _ _ h.run,
  fun t ht=>(World.cell?_setCell_far _ _ _ _ (by simpa using h.nk)).trans (h.tab t ht),h.but.trans (.setCell b _ _ _ rfl),h.ne,h.nk⟩
theorem WInv32.setState(h:WInv32 K b Bp ty pre post w W st rest len)(z0:W8):WInv32 K b Bp ty pre post w (W.setCells b pre.length z0.cells32.toList) z0 rest len:=
 ⟨((But.setCells b _ _ _).block _ (qac h.prm) h.ne.symm).trans h.prm,rc32_setState pre post st z0 rest len h.run,
  fun t ht=>(World.cell?_setCells_out _ _ _ _ _ (fun e _=>absurd e.symm h.nk)).trans (h.tab t ht),h.but.trans (.setCells b _ _ _),h.ne,h.nk⟩
theorem WInv32.cellLen(h:WInv32 K b Bp ty pre post w W st rest len):W.cell? ⟨b,pre.length+9,none⟩=some (.int .u64 len):=by rw[jco W _ _ _ _ _ h.run];exact rc32_len ..
theorem WInv32.cellRest(h:WInv32 K b Bp ty pre post w W st rest len):W.cell? ⟨b,pre.length+8,none⟩=some (.string rest):=by rw[jco W _ _ _ _ _ h.run];exact rc32_rest ..
theorem WInv32.cellState(h:WInv32 K b Bp ty pre post w W st rest len)(j:Nat)(hj:j<8):W.cell? ⟨b,pre.length+j,none⟩=some (.int .u32 (st.at j)):=by rw[jco W _ _ _ _ _ h.run];exact qgN _ _ _ _ _ _ hj
theorem WInv32.frozen(h:WInv32 K b Bp ty pre post w W st rest len)(j:Nat):W.frozen? ⟨b,j,none⟩=false:=jfr W _ _ _ _ h.run
theorem WInv32.there(h:WInv32 K b Bp ty pre post w W st rest len):W.there b pre.length 8:=fun j hj=>⟨by rw[h.cellState j hj];rfl,h.frozen _⟩
end
def WPost32(K:Nat→Int)(b:Nat)(ty:TypeId)(pre post:List Value)(st:W8)(rest data:ByteArray)(len:Int)(w:World)(e:Ending)(w':World):Prop:=
 e=.returned (.tuple #[])∧∃ z0:ByteArray,z0.data.toList=qcE (rest.data.toList++data.data.toList)∧
   w'.heap[b]?=some (.cells (rc32 pre post (qb8 (fun t=>K t/4294967296) st (rest.data.toList++data.data.toList)) z0 (len+data.size)) ty)∧But b w w'
theorem WInv32.begin{K:Nat→Int}{b:Nat}{ty:TypeId}{pre post:List Value}{st:W8}{rest:ByteArray}{len:Int}{w:World}
  (z0:w.heap[b]?=some (.cells (rc32 pre post st rest len) ty)) (hK:TabK w K) (z1:b≠3) :
  WInv32 K b w.heap.size ty pre post w (w.alloc (.cells #[.int .i64 64,.int .i64 64,.int .u64 7,.int .u64 18,.int .u64 3,.int .u64 17,.int .u64 19,.int .u64 10,.int .u64 6,.int .u64 11,.int .u64 25,.int .u64 2,.int .u64 13,.int .u64 22] 95)) st rest len:=
 ⟨qad w _,qah z0,hK.below (qaf w _) hK.lt,.of_below (qaf w _),Nat.ne_of_lt (qac z0),z1⟩
theorem write32_short(K:Nat→Int)(b:Nat)(ty:TypeId)(pre post:List Value)(st:W8)(rest data:ByteArray)(len:Int)(w:World)
  (z1:w.heap[b]?=some (.cells (rc32 pre post st rest len) ty)) (hK:TabK w K) (z5:b≠3)
  (hr:0<rest.size) (hs:rest.size+data.size<64) (h0:0≤len) (h1:len≤1099511627776) :
  Calls Tryz.prog 153 #[.pointer (some ⟨b,pre.length,none⟩),qcB,.string data] w (WPost32 K b ty pre post st rest data len w):=by
 have z0:=WInv32.begin z1 hK z5;have HV:=hid z0;have cl:=z0.cellLen;have cr:=z0.cellRest;have fl:=z0.frozen (pre.length+9);have hre:rest.toList.isEmpty=false:=by
  cases h:rest.toList.isEmpty with
  | false=>rfl
  | true=>
   rw[List.isEmpty_iff]at h;have:rest.size=0:=by rw[Lib.size_eq,← Lib.toList_data,h];rfl
   omega
 clear z0 z1 hK;go_enter func153,ntmps153;go_wp2_with fail;replace HV:=hid (HV.out.setLen (len+data.size));clear cl cr fl;generalize World.setCell _ _ _=W at *;generalize w.heap.size=Bp at *;have hmin:(data.size:Int)<64-(rest.size:Int):=by omega
 ·have cr:=HV.out.cellRest;have cp:=HV.out.prm.cells.1;have kr:=jcr cr;have kp:=jcr cp;refine qav (by kernel_rfl) (by kernel_rfl) ?_
  repeat (first|go_big_quiet_step (fail)|quiet_step (fail))
  refine jqn ?_;intro W1 z2;replace HV:=hid (HV.out.step z2);clear cr cp kr kp z2;go_wp2_with fail;have cr:=HV.out.cellRest;have fr:=HV.out.frozen (pre.length+8);have kr:=jcr cr;refine qak 10 (by kernel_rfl) (by kernel_rfl) ?_;simp only[zks]
  repeat (first|go_big_quiet_step (fail)|quiet_step (fail))
  refine jqn ?_;intro W2 z3;replace HV:=hid (HV.out.step z3);clear cr fr kr z3;have cr:=HV.out.cellRest;have fr:=HV.out.frozen (pre.length+8);go_wp2_with fail;replace HV:=hid (HV.out.setRest (rest++data));clear cr fr;generalize World.setCell _ _ _=W3 at *;have hlt:decide ((rest.size:Int)+(data.size:Int)<64)=true:=by simp;omega
  have cr:=HV.out.cellRest;have cp:=HV.out.prm.cells.1;have kr:=jcr cr;have kp:=jcr cp;refine qav (by kernel_rfl) (by kernel_rfl) ?_
  repeat (first|go_big_quiet_step (fail)|quiet_step (fail))
  refine jqn ?_;intro W4 z4;replace HV:=hid (HV.out.step z4);clear cr cp kr kp z4;go_wp2_with fail
  go_end0
  have hl:(rest.data.toList++data.data.toList).length<64:=by rw[List.length_append,← Lib.size_eq,← Lib.size_eq];exact hs
  have hf:=qeA (fun t=>K t/4294967296) st _ hl;refine⟨rfl,rest++data,?_,?_,HV.out.but⟩
  ·rw[hf.2];simp
  ·rw[hf.1];exact HV.out.run
def strOf(v:Value):Nat:=match v with|.string x=>x.size|_=>0
set_option maxRecDepth 100000 in
theorem write32_none(K:Nat→Int)(b:Nat)(ty:TypeId)(pre post:List Value)(st:W8)(rest data:ByteArray)(len:Int)(w:World)
  (z2:w.heap[b]?=some (.cells (rc32 pre post st rest len) ty)) (hK:TabK w K) (zh:b≠3)
  (hr:rest.size=0) (hs:data.size≤1099511627776) (h0:0≤len) (h1:len≤1099511627776) :
  Calls Tryz.prog 153 #[.pointer (some ⟨b,pre.length,none⟩),qcB,.string data] w (WPost32 K b ty pre post st rest data len w):=by
 have z0:=WInv32.begin z2 hK zh;have HV:=hid z0;have cl:=z0.cellLen;have cr:=z0.cellRest;have fl:=z0.frozen (pre.length+9);have z4:rest.toList=[]:=by
  rw[Lib.toList_data];apply List.eq_nil_of_length_eq_zero;rw[← Lib.size_eq];exact hr
 have z5:rest.toList.isEmpty=true:=by rw[z4];rfl
 have z8:=hid (show rest.data.toList=[] from by rw[← Lib.toList_data];exact z4);clear z0 z2 hK hr;go_enter func153,ntmps153;go_wp2_with fail;replace HV:=hid (HV.out.setLen (len+data.size));clear cl cr fl z4 z5;generalize World.setCell _ _ _=W at *;generalize w.heap.size=Bp at *
 go_loopw [2] (fun d wr=>∃ (x:ByteArray) (s':W8) (r':ByteArray),d=.string x∧x.size≤1099511627776∧Hid (qb8 (fun t=>K t/4294967296) st (rest.data.toList++data.data.toList)=qb8 (fun t=>K t/4294967296) s' x.data.toList)∧
   Hid (qcE (rest.data.toList++data.data.toList)=qcE x.data.toList)∧WInv32 K b Bp ty pre post w wr s' r' (len+data.size)) (fun d _=>strOf d)
 case atStart=>exact⟨data,st,rest,rfl,hs,hid (by rw[z8.out];rfl),hid (by rw[z8.out];rfl),HV.out⟩
 case round=>
  clear HV;obtain⟨x,s',r',rfl,hx,HF,HT,hv⟩:=hrel;have HV:=hid hv;clear hv;have cp:=HV.out.prm.cells.1;by_cases zj:64≤x.size
  ·have zi:decide ((64:Int)≤(x.size:Int))=true:=by simp;omega
   go_wp2_with fail;clear cp;obtain⟨c0,c1,c2,c3,c4,c5,c6,c7,c8,c9,za,zb,zc,zd⟩:=HV.out.prm.cells;have k0:=jcr c0;have k1:=jcr c1;have k2:=jcr c2;have k3:=jcr c3;have k4:=jcr c4;have k5:=jcr c5;have k6:=jcr c6;have k7:=jcr c7;have k8:=jcr c8;have k9:=jcr c9;have zk:=jcr za;have zl:=jcr zb;have zm:=jcr zc;have zn:=jcr zd;have m0:=jcr (HV.out.cellState 0 (by omega));have m1:=jcr (HV.out.cellState 1 (by omega));have m2:=jcr (HV.out.cellState 2 (by omega));have m3:=jcr (HV.out.cellState 3 (by omega));have m4:=jcr (HV.out.cellState 4 (by omega));have m5:=jcr (HV.out.cellState 5 (by omega));have m6:=jcr (HV.out.cellState 6 (by omega));have m7:=jcr (HV.out.cellState 7 (by omega));simp only[W8.at,Nat.add_zero]at m0 m1 m2 m3 m4 m5 m6 m7;have zf:(x.extract 0 64).size=64:=by simp;omega
   have z3:=hid zf;clear zf c0 c1 c2 c3 c4 c5 c6 c7 c8 c9 za zb zc zd;refine qak 13 (by kernel_rfl) (by kernel_rfl) ?_;simp only[zks]
   repeat (first|go_big_quiet_step ((go_at_call 195;exact Calls.regrown_of (qcN K s' (x.extract 0 64) _ (by rw[z3.out];omega) (by rw[z3.out];omega) (HV.out.tab.below (below_regrown _ _ _) HV.out.tab.lt))))|quiet_step ((go_at_call 195;exact Calls.regrown_of (qcN K s' (x.extract 0 64) _ (by rw[z3.out];omega) (by rw[z3.out];omega) (HV.out.tab.below (below_regrown _ _ _) HV.out.tab.lt)))))
   refine jqn ?_;intro W2 z1;replace HV:=hid (HV.out.step z1);clear k0 k1 k2 k3 k4 k5 k6 k7 k8 k9 zk zl zm zn m0 m1 m2 m3 m4 m5 m6 m7 z1;generalize ze:qdJ (fun t=>K t/4294967296) s' (x.extract 0 64).data.toList=s2 at *;have zg:=hid ze;clear ze;have z9:=hid (show W2.there b pre.length s2.cells32.size from HV.out.there);have z7:=hid (show (Tryz.prog.info? 142).map (·.size)=some s2.cells32.size from (jzi info8_32).2);have z6:=hid (show s2.cells32.all (·.oneCell')=true from by simp[Value.oneCell']);refine wpList_store_mid rfl 142 _ _ rfl b pre.length s2.cells32 rfl rfl z9.out z7.out z6.out ?_;replace HV:=hid (HV.out.setState s2);clear z9 z7 z6;generalize World.setCells _ _ _ _=W3 at *;simp only[Act.put];have cp:=HV.out.prm.cells.1;go_wp2_with fail;go_roundw
   case rel=>
    have hl:64≤x.data.toList.length:=by rw[← Lib.size_eq];exact zj
    have hf:=qd6 (fun t=>K t/4294967296) s' x.data.toList hl;refine⟨x.extract 64 x.size,s2,r',rfl,by simp;omega,hid ?_,hid ?_,HV.out⟩
    ·rw[HF.out,hf.1,← zg.out,Lib.extract_data,Lib.extract_data,List.drop_zero,jtl (l:=List.drop 64 x.data.toList) (by simp)]
    ·rw[HT.out,hf.2,Lib.extract_data,jtl (l:=List.drop 64 x.data.toList) (by simp)]
   case measure=>simp[strOf];omega
  ·have zi:decide ((64:Int)≤(x.size:Int))=false:=by simp;omega
   go_wp2_with (go_at_call 181;refine (qek _ _ hx).mono ?_;rintro e W2⟨rfl,z1⟩;replace HV:=hid (HV.out.step z1);clear z1;have cr:=HV.out.cellRest;have fr:=HV.out.frozen (pre.length+8))
   go_end0
   replace HV:=hid (HV.out.setRest x);have hl:x.data.toList.length<64:=by rw[← Lib.size_eq];omega
   have hf:=qeA (fun t=>K t/4294967296) s' x.data.toList hl;refine⟨rfl,x,?_,?_,HV.out.but⟩
   ·rw[HT.out,hf.2]
   ·rw[HF.out,hf.1];exact HV.out.run
set_option maxRecDepth 100000 in
theorem write32_long(K:Nat→Int)(b:Nat)(ty:TypeId)(pre post:List Value)(st:W8)(rest data:ByteArray)(len:Int)(w:World)
  (z9:w.heap[b]?=some (.cells (rc32 pre post st rest len) ty)) (hK:TabK w K) (zt:b≠3)
  (hr:0<rest.size) (hr':rest.size<64) (hs:64≤rest.size+data.size) (hd:data.size≤1099511627776) (h0:0≤len) (h1:len≤1099511627776) :
  Calls Tryz.prog 153 #[.pointer (some ⟨b,pre.length,none⟩),qcB,.string data] w (WPost32 K b ty pre post st rest data len w):=by
 have z0:=WInv32.begin z9 hK zt;have HV:=hid z0;have cl:=z0.cellLen;have cr:=z0.cellRest;have fl:=z0.frozen (pre.length+9);have hre:rest.toList.isEmpty=false:=by
  cases h:rest.toList.isEmpty with
  | false=>rfl
  | true=>
   rw[List.isEmpty_iff]at h;have:rest.size=0:=by rw[Lib.size_eq,← Lib.toList_data,h];rfl
   omega
 clear z0 z9 hK;go_enter func153,ntmps153;go_wp2_with fail;replace HV:=hid (HV.out.setLen (len+data.size));clear cl cr fl;generalize World.setCell _ _ _=W at *;generalize w.heap.size=Bp at *;obtain⟨n,hn⟩:∃ n:Nat,n+rest.size=64:=⟨64-rest.size,by omega⟩;have zf:¬ (data.size:Int)<64-(rest.size:Int):=by omega
 have zw:(64:Int)-(rest.size:Int)=(n:Int):=by omega
 have zv:(n:Int)≤(data.size:Int):=by omega
 have HN:=hid hn;clear hn;have cr:=HV.out.cellRest;have cp:=HV.out.prm.cells.1;have kr:=jcr cr;have kp:=jcr cp;refine qav (by kernel_rfl) (by kernel_rfl) ?_
 repeat (first|go_big_quiet_step (fail)|quiet_step (fail))
 refine jqn ?_;intro W1 zn;replace HV:=hid (HV.out.step zn);clear cr cp kr kp zn;go_wp2_with fail;have cr:=HV.out.cellRest;have kr:=jcr cr;have zg:rest.size+min n data.size≤9223372036854775807:=by omega
 refine qak 10 (by kernel_rfl) (by kernel_rfl) ?_;simp only[zks]
 repeat (first|go_big_quiet_step (fail)|quiet_step (fail))
 refine jqn ?_;intro W2 z1;replace HV:=hid (HV.out.step z1);clear cr kr z1;have zd:(rest++data.extract 0 n).data.toList=(rest.data.toList++data.data.toList).take 64:=by
  have e1:(rest++data.extract 0 n).data.toList=rest.data.toList++(data.extract 0 n).data.toList:=by simp
  have e2:64-rest.data.toList.length=n:=by rw[← Lib.size_eq];have:=HN.out;omega
  rw[e1,Lib.extract_data,List.drop_zero,List.take_append,e2,jtl (l:=rest.data.toList) (by rw[← Lib.size_eq];omega)];simp
 have zm:(data.extract n data.size).data.toList=(rest.data.toList++data.data.toList).drop 64:=by
  have e2:64-rest.data.toList.length=n:=by rw[← Lib.size_eq];have:=HN.out;omega
  rw[Lib.extract_data,List.drop_append,e2,List.drop_of_length_le (l:=rest.data.toList) (by rw[← Lib.size_eq];omega),List.nil_append,jtl (by simp)]
 have zs:(data.extract n data.size).size≤1099511627776:=by simp;omega
 have zr:(rest++data.extract 0 n).size=64:=by rw[Lib.size_eq,zd,List.length_take,List.length_append,← Lib.size_eq,← Lib.size_eq];omega
 have cr:=HV.out.cellRest;have fr:=HV.out.frozen (pre.length+8);have H1:=hid zd;have H2:=hid zm;have H3:=hid zr;have H4:=hid zs;clear zd zm zr zs;go_wp2_with fail;replace HV:=hid (HV.out.setRest (rest++data.extract 0 n));generalize rest++data.extract 0 n=r1 at *;generalize data.extract n data.size=d1 at *;clear cr fr;generalize World.setCell _ _ _=W3 at *;have ze:decide ((r1.size:Int)<64)=false:=by have:=H3.out;simp;omega
 have cr:=HV.out.cellRest;have cp:=HV.out.prm.cells.1;have kr:=jcr cr;have kp:=jcr cp;refine qav (by kernel_rfl) (by kernel_rfl) ?_
 repeat (first|go_big_quiet_step (fail)|quiet_step (fail))
 refine jqn ?_;intro W4 zo;replace HV:=hid (HV.out.step zo);clear cr cp kr kp zo;go_wp2_with fail;obtain⟨c0,c1,c2,c3,c4,c5,c6,c7,c8,c9,z5,z6,z7,z8⟩:=HV.out.prm.cells;have k0:=jcr c0;have k1:=jcr c1;have k2:=jcr c2;have k3:=jcr c3;have k4:=jcr c4;have k5:=jcr c5;have k6:=jcr c6;have k7:=jcr c7;have k8:=jcr c8;have k9:=jcr c9;have zh:=jcr z5;have zi:=jcr z6;have zj:=jcr z7;have zk:=jcr z8;have m0:=jcr (HV.out.cellState 0 (by omega));have m1:=jcr (HV.out.cellState 1 (by omega));have m2:=jcr (HV.out.cellState 2 (by omega));have m3:=jcr (HV.out.cellState 3 (by omega));have m4:=jcr (HV.out.cellState 4 (by omega));have m5:=jcr (HV.out.cellState 5 (by omega));have m6:=jcr (HV.out.cellState 6 (by omega));have m7:=jcr (HV.out.cellState 7 (by omega));have m8:=jcr HV.out.cellRest;simp only[W8.at,Nat.add_zero]at m0 m1 m2 m3 m4 m5 m6 m7;clear c0 c1 c2 c3 c4 c5 c6 c7 c8 c9 z5 z6 z7 z8;refine qak 13 (by kernel_rfl) (by kernel_rfl) ?_;simp only[zks]
 repeat (first|go_big_quiet_step ((go_at_call 195;exact Calls.regrown_of (qcN K st r1 _ (by rw[H3.out];omega) (by rw[H3.out];omega) (HV.out.tab.below (below_regrown _ _ _) HV.out.tab.lt))))|quiet_step ((go_at_call 195;exact Calls.regrown_of (qcN K st r1 _ (by rw[H3.out];omega) (by rw[H3.out];omega) (HV.out.tab.below (below_regrown _ _ _) HV.out.tab.lt)))))
 refine jqn ?_;intro W5 zp;replace HV:=hid (HV.out.step zp);clear k0 k1 k2 k3 k4 k5 k6 k7 k8 k9 zh zi zj zk m0 m1 m2 m3 m4 m5 m6 m7 m8 zp;generalize za:qdJ (fun t=>K t/4294967296) st r1.data.toList=s2 at *;have zc:=hid za;clear za;have z4:=hid (show W5.there b pre.length s2.cells32.size from HV.out.there);have z3:=hid (show (Tryz.prog.info? 142).map (·.size)=some s2.cells32.size from (jzi info8_32).2);have z2:=hid (show s2.cells32.all (·.oneCell')=true from by simp[Value.oneCell']);refine wpList_store_mid rfl 142 _ _ rfl b pre.length s2.cells32 rfl rfl z4.out z3.out z2.out ?_;replace HV:=hid (HV.out.setState s2);clear z4 z3 z2;generalize World.setCells _ _ _ _=W6 at *;simp only[Act.put];have zl:=hid (qd6 (fun t=>K t/4294967296) st (rest.data.toList++data.data.toList) (by rw[List.length_append,← Lib.size_eq,← Lib.size_eq];exact hs));clear ze zf zw zv zg;go_wp2_with fail
 go_loopw [2] (fun d wr=>∃ (x:ByteArray) (s':W8) (r':ByteArray),d=.string x∧x.size≤1099511627776∧Hid (qb8 (fun t=>K t/4294967296) st (rest.data.toList++data.data.toList)=qb8 (fun t=>K t/4294967296) s' x.data.toList)∧
   Hid (qcE (rest.data.toList++data.data.toList)=qcE x.data.toList)∧WInv32 K b Bp ty pre post w wr s' r' (len+data.size)) (fun d _=>strOf d)
 case atStart=>exact⟨d1,s2,r1,rfl,H4.out,hid (by rw[zl.out.1,← H1.out,zc.out,← H2.out]),hid (by rw[zl.out.2,← H2.out]),HV.out⟩
 case round=>
  clear HV;obtain⟨x,s',r',rfl,hx,HF,HT,hv⟩:=hrel;have HV:=hid hv;clear hv;have cp:=HV.out.prm.cells.1;by_cases zu:64≤x.size
  ·have ze:decide ((64:Int)≤(x.size:Int))=true:=by simp;omega
   go_wp2_with fail;clear cp;obtain⟨c0,c1,c2,c3,c4,c5,c6,c7,c8,c9,z5,z6,z7,z8⟩:=HV.out.prm.cells;have k0:=jcr c0;have k1:=jcr c1;have k2:=jcr c2;have k3:=jcr c3;have k4:=jcr c4;have k5:=jcr c5;have k6:=jcr c6;have k7:=jcr c7;have k8:=jcr c8;have k9:=jcr c9;have zh:=jcr z5;have zi:=jcr z6;have zj:=jcr z7;have zk:=jcr z8;have m0:=jcr (HV.out.cellState 0 (by omega));have m1:=jcr (HV.out.cellState 1 (by omega));have m2:=jcr (HV.out.cellState 2 (by omega));have m3:=jcr (HV.out.cellState 3 (by omega));have m4:=jcr (HV.out.cellState 4 (by omega));have m5:=jcr (HV.out.cellState 5 (by omega));have m6:=jcr (HV.out.cellState 6 (by omega));have m7:=jcr (HV.out.cellState 7 (by omega));simp only[W8.at,Nat.add_zero]at m0 m1 m2 m3 m4 m5 m6 m7;have zq:(x.extract 0 64).size=64:=by simp;omega
   have zb:=hid zq;clear zq c0 c1 c2 c3 c4 c5 c6 c7 c8 c9 z5 z6 z7 z8;refine qak 13 (by kernel_rfl) (by kernel_rfl) ?_;simp only[zks]
   repeat (first|go_big_quiet_step ((go_at_call 195;exact Calls.regrown_of (qcN K s' (x.extract 0 64) _ (by rw[zb.out];omega) (by rw[zb.out];omega) (HV.out.tab.below (below_regrown _ _ _) HV.out.tab.lt))))|quiet_step ((go_at_call 195;exact Calls.regrown_of (qcN K s' (x.extract 0 64) _ (by rw[zb.out];omega) (by rw[zb.out];omega) (HV.out.tab.below (below_regrown _ _ _) HV.out.tab.lt)))))
   refine jqn ?_;intro W2 z1;replace HV:=hid (HV.out.step z1);clear k0 k1 k2 k3 k4 k5 k6 k7 k8 k9 zh zi zj zk m0 m1 m2 m3 m4 m5 m6 m7 z1;generalize za:qdJ (fun t=>K t/4294967296) s' (x.extract 0 64).data.toList=s2 at *;have zc:=hid za;clear za;have z4:=hid (show W2.there b pre.length s2.cells32.size from HV.out.there);have z3:=hid (show (Tryz.prog.info? 142).map (·.size)=some s2.cells32.size from (jzi info8_32).2);have z2:=hid (show s2.cells32.all (·.oneCell')=true from by simp[Value.oneCell']);refine wpList_store_mid rfl 142 _ _ rfl b pre.length s2.cells32 rfl rfl z4.out z3.out z2.out ?_;replace HV:=hid (HV.out.setState s2);clear z4 z3 z2;generalize World.setCells _ _ _ _=W3 at *;simp only[Act.put];have cp:=HV.out.prm.cells.1;go_wp2_with fail;go_roundw
   case rel=>
    have hl:64≤x.data.toList.length:=by rw[← Lib.size_eq];exact zu
    have hf:=qd6 (fun t=>K t/4294967296) s' x.data.toList hl;refine⟨x.extract 64 x.size,s2,r',rfl,by simp;omega,hid ?_,hid ?_,HV.out⟩
    ·rw[HF.out,hf.1,← zc.out,Lib.extract_data,Lib.extract_data,List.drop_zero,jtl (l:=List.drop 64 x.data.toList) (by simp)]
    ·rw[HT.out,hf.2,Lib.extract_data,jtl (l:=List.drop 64 x.data.toList) (by simp)]
   case measure=>simp[strOf];omega
  ·have ze:decide ((64:Int)≤(x.size:Int))=false:=by simp;omega
   go_wp2_with (go_at_call 181;refine (qek _ _ hx).mono ?_;rintro e W2⟨rfl,z1⟩;replace HV:=hid (HV.out.step z1);clear z1;have cr:=HV.out.cellRest;have fr:=HV.out.frozen (pre.length+8))
   go_end0
   replace HV:=hid (HV.out.setRest x);have hl:x.data.toList.length<64:=by rw[← Lib.size_eq];omega
   have hf:=qeA (fun t=>K t/4294967296) s' x.data.toList hl;refine⟨rfl,x,?_,?_,HV.out.but⟩
   ·rw[HT.out,hf.2]
   ·rw[HF.out,hf.1];exact HV.out.run
theorem write32_any(K:Nat→Int)(b:Nat)(ty:TypeId)(pre post:List Value)(st:W8)(rest data:ByteArray)(len:Int)(w:World)
  (z0:w.heap[b]?=some (.cells (rc32 pre post st rest len) ty)) (hK:TabK w K) (z1:b≠3)
  (hr:rest.size<64) (hd:data.size≤1099511627776) (h0:0≤len) (h1:len≤1099511627776) :
  Calls Tryz.prog 153 #[.pointer (some ⟨b,pre.length,none⟩),qcB,.string data] w (WPost32 K b ty pre post st rest data len w):=by
 by_cases hz:rest.size=0
 ·exact write32_none K b ty pre post st rest data len w z0 hK z1 hz hd h0 h1
 ·by_cases hs:rest.size+data.size<64
  ·exact write32_short K b ty pre post st rest data len w z0 hK z1 (by omega) hs h0 h1
  ·exact write32_long K b ty pre post st rest data len w z0 hK z1 (by omega) hr (by omega) hd h0 h1
end
section
open Go.RowKit Go.Sort
def rc64(pre post:List Value)(st:W8)(rest:ByteArray)(len:Int):Array Value:=
 (pre++(Value.int .u64 st.a :: Value.int .u64 st.b :: Value.int .u64 st.c :: Value.int .u64 st.d :: Value.int .u64 st.e :: Value.int .u64 st.f :: Value.int .u64 st.g :: Value.int .u64 st.h :: Value.string rest :: Value.int .u64 len :: post)).toArray
theorem qgO(pre post:List Value)(st:W8)(rest:ByteArray)(len:Int)(j:Nat)(hj:j<8):(rc64 pre post st rest len)[pre.length+j]?=some (.int .u64 (st.at j)):=by
 rcases lt8 hj with rfl|rfl|rfl|rfl|rfl|rfl|rfl|rfl<;>simp[rc64,W8.at]
theorem rc64_rest(pre post:List Value)(st:W8)(rest:ByteArray)(len:Int):(rc64 pre post st rest len)[pre.length+8]?=some (.string rest):=by
 simp[rc64]
theorem rc64_len(pre post:List Value)(st:W8)(rest:ByteArray)(len:Int):(rc64 pre post st rest len)[pre.length+9]?=some (.int .u64 len):=by
 simp[rc64]
theorem rc64_setLen(pre post:List Value)(st:W8)(rest:ByteArray)(len x:Int):(rc64 pre post st rest len).setIfInBounds (pre.length+9) (.int .u64 x)=rc64 pre post st rest x:=by
 simp[rc64,List.set_append]
theorem rc64_setRest(pre post:List Value)(st:W8)(rest x:ByteArray)(len:Int):(rc64 pre post st rest len).setIfInBounds (pre.length+8) (.string x)=rc64 pre post st x len:=by
 simp[rc64,List.set_append]
theorem rc64_setState{w:World}{b:Nat}{ty:TypeId}(pre post:List Value)(st z0:W8)(rest:ByteArray)(len:Int)(h:w.heap[b]?=some (.cells (rc64 pre post st rest len) ty)):(w.setCells b pre.length z0.cells64.toList).heap[b]?=some (.cells (rc64 pre post z0 rest len) ty):=by
 rw[show z0.cells64.toList=[.int .u64 z0.a,.int .u64 z0.b,.int .u64 z0.c,.int .u64 z0.d,.int .u64 z0.e,.int .u64 z0.f,.int .u64 z0.g,.int .u64 z0.h] from rfl];simp only[World.setCells];have h0:=heap_setCell_same w b pre.length _ ty (.int .u64 z0.a) h;have h1:=heap_setCell_same _ b (pre.length+1) _ ty (.int .u64 z0.b) h0;have h2:=heap_setCell_same _ b (pre.length+1+1) _ ty (.int .u64 z0.c) h1;have h3:=heap_setCell_same _ b (pre.length+1+1+1) _ ty (.int .u64 z0.d) h2;have h4:=heap_setCell_same _ b (pre.length+1+1+1+1) _ ty (.int .u64 z0.e) h3;have h5:=heap_setCell_same _ b (pre.length+1+1+1+1+1) _ ty (.int .u64 z0.f) h4;have h6:=heap_setCell_same _ b (pre.length+1+1+1+1+1+1) _ ty (.int .u64 z0.g) h5;have h7:=heap_setCell_same _ b (pre.length+1+1+1+1+1+1+1) _ ty (.int .u64 z0.h) h6;rw[h7];simp[rc64,List.set_append,Nat.add_assoc]
def qc0(K:Nat→Int)(st:W8)(l:List UInt8):Nat→W8
 | 0=>st
 | n+1=>qdK K (qc0 K st l n) ((l.drop (128*n)).take 128)
theorem fold64_succ(K:Nat→Int)(st:W8)(l:List UInt8)(n:Nat):qc0 K st l (n+1)=qc0 K (qdK K st (l.take 128)) (l.drop 128) n:=by
 induction n with
 | zero=>simp[qc0]
 | succ n ih=>
  rw[qc0,ih,qc0,List.drop_drop,show 128+128*n=128*(n+1) by omega]
def qcm(l:List UInt8):List UInt8:=l.drop (128*(l.length/128))
def qb9(K:Nat→Int)(st:W8)(l:List UInt8):W8:=qc0 K st l (l.length/128)
theorem qeB(K:Nat→Int)(st:W8)(l:List UInt8)(h:l.length<128):qb9 K st l=st∧qcm l=l:=by
 have:l.length/128=0:=by omega
 simp[qb9,qcm,this,qc0]
theorem qd7(K:Nat→Int)(st:W8)(l:List UInt8)(h:128≤l.length):qb9 K st l=qb9 K (qdK K st (l.take 128)) (l.drop 128)∧qcm l=qcm (l.drop 128):=by
 have e:l.length/128=(l.length-128)/128+1:=by omega
 constructor
 ·unfold qb9;rw[e,fold64_succ,List.length_drop]
 ·unfold qcm;rw[List.drop_drop,List.length_drop];congr 1;omega
theorem tail128_length(l:List UInt8):(qcm l).length<128:=by
 unfold qcm;rw[List.length_drop];omega
structure WInv64 (K:Nat→Int) (b Bp:Nat) (ty:TypeId) (pre post:List Value) (w W:World) (st:W8) (rest:ByteArray) (len:Int):Prop where
 prm:PrmBt W Bp
 run:W.heap[b]?=some (.cells (rc64 pre post st rest len) ty)
 tab:TabK W K
 but:But b w W
 ne:b≠Bp
 nk:b≠3
section
variable {K : Nat → Int} {b Bp : Nat} {ty : TypeId} {pre post : List Value} {w W W' : World} {st : W8} {rest : ByteArray} {len : Int}
theorem WInv64.step(h:WInv64 K b Bp ty pre post w W st rest len)(hb:Below W.heap.size W W'):WInv64 K b Bp ty pre post w W' st rest len:=
 ⟨h.prm.below hb (qac h.prm),qap hb (qac h.run) h.run,h.tab.below hb h.tab.lt,h.but.trans (.of_below hb),h.ne,h.nk⟩
theorem WInv64.setLen(h:WInv64 K b Bp ty pre post w W st rest len)(x:Int):WInv64 K b Bp ty pre post w (W.setCell ⟨b,pre.length+9,none⟩ (.int .u64 x)) st rest x:=
 ⟨(jso _ _ _ _ (by simpa using h.ne.symm)).trans h.prm,by rw[← rc64_setLen pre post st rest len x];exact heap_setCell_same _ _ _ _ _ _ h.run,
  fun t ht=>(World.cell?_setCell_far _ _ _ _ (by simpa using h.nk)).trans (h.tab t ht),h.but.trans (.setCell b _ _ _ rfl),h.ne,h.nk⟩
theorem WInv64.setRest(h:WInv64 K b Bp ty pre post w W st rest len)(x:ByteArray):WInv64 K b Bp ty pre post w (W.setCell ⟨b,pre.length+8,none⟩ (.string x)) st x len:=
 ⟨(jso _ _ _ _ (by simpa using h.ne.symm)).trans h.prm,by rw[← rc64_setRest pre post st rest x len];exact heap_setCell_same _ _ _ _ _ _ h.run,
  fun t ht=>(World.cell?_setCell_far _ _ _ _ (by simpa using h.nk)).trans (h.tab t ht),h.but.trans (.setCell b _ _ _ rfl),h.ne,h.nk⟩
theorem WInv64.setState(h:WInv64 K b Bp ty pre post w W st rest len)(z0:W8):WInv64 K b Bp ty pre post w (W.setCells b pre.length z0.cells64.toList) z0 rest len:=
 ⟨((But.setCells b _ _ _).block _ (qac h.prm) h.ne.symm).trans h.prm,rc64_setState pre post st z0 rest len h.run,
  fun t ht=>(World.cell?_setCells_out _ _ _ _ _ (fun e _=>absurd e.symm h.nk)).trans (h.tab t ht),h.but.trans (.setCells b _ _ _),h.ne,h.nk⟩
theorem WInv64.cellLen(h:WInv64 K b Bp ty pre post w W st rest len):W.cell? ⟨b,pre.length+9,none⟩=some (.int .u64 len):=by rw[jco W _ _ _ _ _ h.run];exact rc64_len ..
theorem WInv64.cellRest(h:WInv64 K b Bp ty pre post w W st rest len):W.cell? ⟨b,pre.length+8,none⟩=some (.string rest):=by rw[jco W _ _ _ _ _ h.run];exact rc64_rest ..
theorem WInv64.cellState(h:WInv64 K b Bp ty pre post w W st rest len)(j:Nat)(hj:j<8):W.cell? ⟨b,pre.length+j,none⟩=some (.int .u64 (st.at j)):=by rw[jco W _ _ _ _ _ h.run];exact qgO _ _ _ _ _ _ hj
theorem WInv64.frozen(h:WInv64 K b Bp ty pre post w W st rest len)(j:Nat):W.frozen? ⟨b,j,none⟩=false:=jfr W _ _ _ _ h.run
theorem WInv64.there(h:WInv64 K b Bp ty pre post w W st rest len):W.there b pre.length 8:=fun j hj=>⟨by rw[h.cellState j hj];rfl,h.frozen _⟩
end
def WPost64(K:Nat→Int)(b:Nat)(ty:TypeId)(pre post:List Value)(st:W8)(rest data:ByteArray)(len:Int)(w:World)(e:Ending)(w':World):Prop:=
 e=.returned (.tuple #[])∧∃ z0:ByteArray,z0.data.toList=qcm (rest.data.toList++data.data.toList)∧
   w'.heap[b]?=some (.cells (rc64 pre post (qb9 (fun t=>K t) st (rest.data.toList++data.data.toList)) z0 (len+data.size)) ty)∧But b w w'
theorem WInv64.begin{K:Nat→Int}{b:Nat}{ty:TypeId}{pre post:List Value}{st:W8}{rest:ByteArray}{len:Int}{w:World}
  (z0:w.heap[b]?=some (.cells (rc64 pre post st rest len) ty)) (hK:TabK w K) (z1:b≠3) :
  WInv64 K b w.heap.size ty pre post w (w.alloc (.cells #[.int .i64 128,.int .i64 80,.int .u64 1,.int .u64 8,.int .u64 7,.int .u64 19,.int .u64 61,.int .u64 6,.int .u64 14,.int .u64 18,.int .u64 41,.int .u64 28,.int .u64 34,.int .u64 39] 95)) st rest len:=
 ⟨qad w _,qah z0,hK.below (qaf w _) hK.lt,.of_below (qaf w _),Nat.ne_of_lt (qac z0),z1⟩
theorem write64_short(K:Nat→Int)(b:Nat)(ty:TypeId)(pre post:List Value)(st:W8)(rest data:ByteArray)(len:Int)(w:World)
  (z1:w.heap[b]?=some (.cells (rc64 pre post st rest len) ty)) (hK:TabK w K) (z5:b≠3)
  (hr:0<rest.size) (hs:rest.size+data.size<128) (h0:0≤len) (h1:len≤1099511627776) :
  Calls Tryz.prog 200 #[.pointer (some ⟨b,pre.length,none⟩),qcC,.string data] w (WPost64 K b ty pre post st rest data len w):=by
 have z0:=WInv64.begin z1 hK z5;have HV:=hid z0;have cl:=z0.cellLen;have cr:=z0.cellRest;have fl:=z0.frozen (pre.length+9);have hre:rest.toList.isEmpty=false:=by
  cases h:rest.toList.isEmpty with
  | false=>rfl
  | true=>
   rw[List.isEmpty_iff]at h;have:rest.size=0:=by rw[Lib.size_eq,← Lib.toList_data,h];rfl
   omega
 clear z0 z1 hK;go_enter func200,ntmps200;go_wp2_with fail;replace HV:=hid (HV.out.setLen (len+data.size));clear cl cr fl;generalize World.setCell _ _ _=W at *;generalize w.heap.size=Bp at *;have hmin:(data.size:Int)<128-(rest.size:Int):=by omega
 ·have cr:=HV.out.cellRest;have cp:=HV.out.prm.cells.1;have kr:=jcr cr;have kp:=jcr cp;refine qav (by kernel_rfl) (by kernel_rfl) ?_
  repeat (first|go_big_quiet_step (fail)|quiet_step (fail))
  refine jqn ?_;intro W1 z2;replace HV:=hid (HV.out.step z2);clear cr cp kr kp z2;go_wp2_with fail;have cr:=HV.out.cellRest;have fr:=HV.out.frozen (pre.length+8);have kr:=jcr cr;refine qak 10 (by kernel_rfl) (by kernel_rfl) ?_;simp only[zks]
  repeat (first|go_big_quiet_step (fail)|quiet_step (fail))
  refine jqn ?_;intro W2 z3;replace HV:=hid (HV.out.step z3);clear cr fr kr z3;have cr:=HV.out.cellRest;have fr:=HV.out.frozen (pre.length+8);go_wp2_with fail;replace HV:=hid (HV.out.setRest (rest++data));clear cr fr;generalize World.setCell _ _ _=W3 at *;have hlt:decide ((rest.size:Int)+(data.size:Int)<128)=true:=by simp;omega
  have cr:=HV.out.cellRest;have cp:=HV.out.prm.cells.1;have kr:=jcr cr;have kp:=jcr cp;refine qav (by kernel_rfl) (by kernel_rfl) ?_
  repeat (first|go_big_quiet_step (fail)|quiet_step (fail))
  refine jqn ?_;intro W4 z4;replace HV:=hid (HV.out.step z4);clear cr cp kr kp z4;go_wp2_with fail
  go_end0
  have hl:(rest.data.toList++data.data.toList).length<128:=by rw[List.length_append,← Lib.size_eq,← Lib.size_eq];exact hs
  have hf:=qeB (fun t=>K t) st _ hl;refine⟨rfl,rest++data,?_,?_,HV.out.but⟩
  ·rw[hf.2];simp
  ·rw[hf.1];exact HV.out.run
set_option maxRecDepth 100000 in
theorem write64_none(K:Nat→Int)(b:Nat)(ty:TypeId)(pre post:List Value)(st:W8)(rest data:ByteArray)(len:Int)(w:World)
  (z2:w.heap[b]?=some (.cells (rc64 pre post st rest len) ty)) (hK:TabK w K) (zh:b≠3)
  (hr:rest.size=0) (hs:data.size≤1099511627776) (h0:0≤len) (h1:len≤1099511627776) :
  Calls Tryz.prog 200 #[.pointer (some ⟨b,pre.length,none⟩),qcC,.string data] w (WPost64 K b ty pre post st rest data len w):=by
 have z0:=WInv64.begin z2 hK zh;have HV:=hid z0;have cl:=z0.cellLen;have cr:=z0.cellRest;have fl:=z0.frozen (pre.length+9);have z4:rest.toList=[]:=by
  rw[Lib.toList_data];apply List.eq_nil_of_length_eq_zero;rw[← Lib.size_eq];exact hr
 have z5:rest.toList.isEmpty=true:=by rw[z4];rfl
 have z8:=hid (show rest.data.toList=[] from by rw[← Lib.toList_data];exact z4);clear z0 z2 hK hr;go_enter func200,ntmps200;go_wp2_with fail;replace HV:=hid (HV.out.setLen (len+data.size));clear cl cr fl z4 z5;generalize World.setCell _ _ _=W at *;generalize w.heap.size=Bp at *
 go_loopw [2] (fun d wr=>∃ (x:ByteArray) (s':W8) (r':ByteArray),d=.string x∧x.size≤1099511627776∧Hid (qb9 (fun t=>K t) st (rest.data.toList++data.data.toList)=qb9 (fun t=>K t) s' x.data.toList)∧
   Hid (qcm (rest.data.toList++data.data.toList)=qcm x.data.toList)∧WInv64 K b Bp ty pre post w wr s' r' (len+data.size)) (fun d _=>strOf d)
 case atStart=>exact⟨data,st,rest,rfl,hs,hid (by rw[z8.out];rfl),hid (by rw[z8.out];rfl),HV.out⟩
 case round=>
  clear HV;obtain⟨x,s',r',rfl,hx,HF,HT,hv⟩:=hrel;have HV:=hid hv;clear hv;have cp:=HV.out.prm.cells.1;by_cases zj:128≤x.size
  ·have zi:decide ((128:Int)≤(x.size:Int))=true:=by simp;omega
   go_wp2_with fail;clear cp;obtain⟨c0,c1,c2,c3,c4,c5,c6,c7,c8,c9,za,zb,zc,zd⟩:=HV.out.prm.cells;have k0:=jcr c0;have k1:=jcr c1;have k2:=jcr c2;have k3:=jcr c3;have k4:=jcr c4;have k5:=jcr c5;have k6:=jcr c6;have k7:=jcr c7;have k8:=jcr c8;have k9:=jcr c9;have zk:=jcr za;have zl:=jcr zb;have zm:=jcr zc;have zn:=jcr zd;have m0:=jcr (HV.out.cellState 0 (by omega));have m1:=jcr (HV.out.cellState 1 (by omega));have m2:=jcr (HV.out.cellState 2 (by omega));have m3:=jcr (HV.out.cellState 3 (by omega));have m4:=jcr (HV.out.cellState 4 (by omega));have m5:=jcr (HV.out.cellState 5 (by omega));have m6:=jcr (HV.out.cellState 6 (by omega));have m7:=jcr (HV.out.cellState 7 (by omega));simp only[W8.at,Nat.add_zero]at m0 m1 m2 m3 m4 m5 m6 m7;have zf:(x.extract 0 128).size=128:=by simp;omega
   have z3:=hid zf;clear zf c0 c1 c2 c3 c4 c5 c6 c7 c8 c9 za zb zc zd;refine qak 13 (by kernel_rfl) (by kernel_rfl) ?_;simp only[zks]
   repeat (first|go_big_quiet_step ((go_at_call 222;exact Calls.regrown_of (qcO K s' (x.extract 0 128) _ (by rw[z3.out];omega) (by rw[z3.out];omega) (HV.out.tab.below (below_regrown _ _ _) HV.out.tab.lt))))|quiet_step ((go_at_call 222;exact Calls.regrown_of (qcO K s' (x.extract 0 128) _ (by rw[z3.out];omega) (by rw[z3.out];omega) (HV.out.tab.below (below_regrown _ _ _) HV.out.tab.lt)))))
   refine jqn ?_;intro W2 z1;replace HV:=hid (HV.out.step z1);clear k0 k1 k2 k3 k4 k5 k6 k7 k8 k9 zk zl zm zn m0 m1 m2 m3 m4 m5 m6 m7 z1;generalize ze:qdK (fun t=>K t) s' (x.extract 0 128).data.toList=s2 at *;have zg:=hid ze;clear ze;have z9:=hid (show W2.there b pre.length s2.cells64.size from HV.out.there);have z7:=hid (show (Tryz.prog.info? 175).map (·.size)=some s2.cells64.size from (jzi info8_64).2);have z6:=hid (show s2.cells64.all (·.oneCell')=true from by simp[Value.oneCell']);refine wpList_store_mid rfl 175 _ _ rfl b pre.length s2.cells64 rfl rfl z9.out z7.out z6.out ?_;replace HV:=hid (HV.out.setState s2);clear z9 z7 z6;generalize World.setCells _ _ _ _=W3 at *;simp only[Act.put];have cp:=HV.out.prm.cells.1;go_wp2_with fail;go_roundw
   case rel=>
    have hl:128≤x.data.toList.length:=by rw[← Lib.size_eq];exact zj
    have hf:=qd7 (fun t=>K t) s' x.data.toList hl;refine⟨x.extract 128 x.size,s2,r',rfl,by simp;omega,hid ?_,hid ?_,HV.out⟩
    ·rw[HF.out,hf.1,← zg.out,Lib.extract_data,Lib.extract_data,List.drop_zero,jtl (l:=List.drop 128 x.data.toList) (by simp)]
    ·rw[HT.out,hf.2,Lib.extract_data,jtl (l:=List.drop 128 x.data.toList) (by simp)]
   case measure=>simp[strOf];omega
  ·have zi:decide ((128:Int)≤(x.size:Int))=false:=by simp;omega
   go_wp2_with (go_at_call 181;refine (qek _ _ hx).mono ?_;rintro e W2⟨rfl,z1⟩;replace HV:=hid (HV.out.step z1);clear z1;have cr:=HV.out.cellRest;have fr:=HV.out.frozen (pre.length+8))
   go_end0
   replace HV:=hid (HV.out.setRest x);have hl:x.data.toList.length<128:=by rw[← Lib.size_eq];omega
   have hf:=qeB (fun t=>K t) s' x.data.toList hl;refine⟨rfl,x,?_,?_,HV.out.but⟩
   ·rw[HT.out,hf.2]
   ·rw[HF.out,hf.1];exact HV.out.run
set_option maxRecDepth 100000 in
theorem write64_long(K:Nat→Int)(b:Nat)(ty:TypeId)(pre post:List Value)(st:W8)(rest data:ByteArray)(len:Int)(w:World)
  (z9:w.heap[b]?=some (.cells (rc64 pre post st rest len) ty)) (hK:TabK w K) (zt:b≠3)
  (hr:0<rest.size) (hr':rest.size<128) (hs:128≤rest.size+data.size) (hd:data.size≤1099511627776) (h0:0≤len) (h1:len≤1099511627776) :
  Calls Tryz.prog 200 #[.pointer (some ⟨b,pre.length,none⟩),qcC,.string data] w (WPost64 K b ty pre post st rest data len w):=by
 have z0:=WInv64.begin z9 hK zt;have HV:=hid z0;have cl:=z0.cellLen;have cr:=z0.cellRest;have fl:=z0.frozen (pre.length+9);have hre:rest.toList.isEmpty=false:=by
  cases h:rest.toList.isEmpty with
  | false=>rfl
  | true=>
   rw[List.isEmpty_iff]at h;have:rest.size=0:=by rw[Lib.size_eq,← Lib.toList_data,h];rfl
   omega
 clear z0 z9 hK;go_enter func200,ntmps200;go_wp2_with fail;replace HV:=hid (HV.out.setLen (len+data.size));clear cl cr fl;generalize World.setCell _ _ _=W at *;generalize w.heap.size=Bp at *;obtain⟨n,hn⟩:∃ n:Nat,n+rest.size=128:=⟨128-rest.size,by omega⟩;have zf:¬ (data.size:Int)<128-(rest.size:Int):=by omega
 have zw:(128:Int)-(rest.size:Int)=(n:Int):=by omega
 have zv:(n:Int)≤(data.size:Int):=by omega
 have HN:=hid hn;clear hn;have cr:=HV.out.cellRest;have cp:=HV.out.prm.cells.1;have kr:=jcr cr;have kp:=jcr cp;refine qav (by kernel_rfl) (by kernel_rfl) ?_
 repeat (first|go_big_quiet_step (fail)|quiet_step (fail))
 refine jqn ?_;intro W1 zn;replace HV:=hid (HV.out.step zn);clear cr cp kr kp zn;go_wp2_with fail;have cr:=HV.out.cellRest;have kr:=jcr cr;have zg:rest.size+min n data.size≤9223372036854775807:=by omega
 refine qak 10 (by kernel_rfl) (by kernel_rfl) ?_;simp only[zks]
 repeat (first|go_big_quiet_step (fail)|quiet_step (fail))
 refine jqn ?_;intro W2 z1;replace HV:=hid (HV.out.step z1);clear cr kr z1;have zd:(rest++data.extract 0 n).data.toList=(rest.data.toList++data.data.toList).take 128:=by
  have e1:(rest++data.extract 0 n).data.toList=rest.data.toList++(data.extract 0 n).data.toList:=by simp
  have e2:128-rest.data.toList.length=n:=by rw[← Lib.size_eq];have:=HN.out;omega
  rw[e1,Lib.extract_data,List.drop_zero,List.take_append,e2,jtl (l:=rest.data.toList) (by rw[← Lib.size_eq];omega)];simp
 have zm:(data.extract n data.size).data.toList=(rest.data.toList++data.data.toList).drop 128:=by
  have e2:128-rest.data.toList.length=n:=by rw[← Lib.size_eq];have:=HN.out;omega
  rw[Lib.extract_data,List.drop_append,e2,List.drop_of_length_le (l:=rest.data.toList) (by rw[← Lib.size_eq];omega),List.nil_append,jtl (by simp)]
 have zs:(data.extract n data.size).size≤1099511627776:=by simp;omega
 have zr:(rest++data.extract 0 n).size=128:=by rw[Lib.size_eq,zd,List.length_take,List.length_append,← Lib.size_eq,← Lib.size_eq];omega
 have cr:=HV.out.cellRest;have fr:=HV.out.frozen (pre.length+8);have H1:=hid zd;have H2:=hid zm;have H3:=hid zr;have H4:=hid zs;clear zd zm zr zs;go_wp2_with fail;replace HV:=hid (HV.out.setRest (rest++data.extract 0 n));generalize rest++data.extract 0 n=r1 at *;generalize data.extract n data.size=d1 at *;clear cr fr;generalize World.setCell _ _ _=W3 at *;have ze:decide ((r1.size:Int)<128)=false:=by have:=H3.out;simp;omega
 have cr:=HV.out.cellRest;have cp:=HV.out.prm.cells.1;have kr:=jcr cr;have kp:=jcr cp;refine qav (by kernel_rfl) (by kernel_rfl) ?_
 repeat (first|go_big_quiet_step (fail)|quiet_step (fail))
 refine jqn ?_;intro W4 zo;replace HV:=hid (HV.out.step zo);clear cr cp kr kp zo;go_wp2_with fail;obtain⟨c0,c1,c2,c3,c4,c5,c6,c7,c8,c9,z5,z6,z7,z8⟩:=HV.out.prm.cells;have k0:=jcr c0;have k1:=jcr c1;have k2:=jcr c2;have k3:=jcr c3;have k4:=jcr c4;have k5:=jcr c5;have k6:=jcr c6;have k7:=jcr c7;have k8:=jcr c8;have k9:=jcr c9;have zh:=jcr z5;have zi:=jcr z6;have zj:=jcr z7;have zk:=jcr z8;have m0:=jcr (HV.out.cellState 0 (by omega));have m1:=jcr (HV.out.cellState 1 (by omega));have m2:=jcr (HV.out.cellState 2 (by omega));have m3:=jcr (HV.out.cellState 3 (by omega));have m4:=jcr (HV.out.cellState 4 (by omega));have m5:=jcr (HV.out.cellState 5 (by omega));have m6:=jcr (HV.out.cellState 6 (by omega));have m7:=jcr (HV.out.cellState 7 (by omega));have m8:=jcr HV.out.cellRest;simp only[W8.at,Nat.add_zero]at m0 m1 m2 m3 m4 m5 m6 m7;clear c0 c1 c2 c3 c4 c5 c6 c7 c8 c9 z5 z6 z7 z8;refine qak 13 (by kernel_rfl) (by kernel_rfl) ?_;simp only[zks]
 repeat (first|go_big_quiet_step ((go_at_call 222;exact Calls.regrown_of (qcO K st r1 _ (by rw[H3.out];omega) (by rw[H3.out];omega) (HV.out.tab.below (below_regrown _ _ _) HV.out.tab.lt))))|quiet_step ((go_at_call 222;exact Calls.regrown_of (qcO K st r1 _ (by rw[H3.out];omega) (by rw[H3.out];omega) (HV.out.tab.below (below_regrown _ _ _) HV.out.tab.lt)))))
 refine jqn ?_;intro W5 zp;replace HV:=hid (HV.out.step zp);clear k0 k1 k2 k3 k4 k5 k6 k7 k8 k9 zh zi zj zk m0 m1 m2 m3 m4 m5 m6 m7 m8 zp;generalize za:qdK (fun t=>K t) st r1.data.toList=s2 at *;have zc:=hid za;clear za;have z4:=hid (show W5.there b pre.length s2.cells64.size from HV.out.there);have z3:=hid (show (Tryz.prog.info? 175).map (·.size)=some s2.cells64.size from (jzi info8_64).2);have z2:=hid (show s2.cells64.all (·.oneCell')=true from by simp[Value.oneCell']);refine wpList_store_mid rfl 175 _ _ rfl b pre.length s2.cells64 rfl rfl z4.out z3.out z2.out ?_;replace HV:=hid (HV.out.setState s2);clear z4 z3 z2;generalize World.setCells _ _ _ _=W6 at *;simp only[Act.put];have zl:=hid (qd7 (fun t=>K t) st (rest.data.toList++data.data.toList) (by rw[List.length_append,← Lib.size_eq,← Lib.size_eq];exact hs));clear ze zf zw zv zg;go_wp2_with fail
 go_loopw [2] (fun d wr=>∃ (x:ByteArray) (s':W8) (r':ByteArray),d=.string x∧x.size≤1099511627776∧Hid (qb9 (fun t=>K t) st (rest.data.toList++data.data.toList)=qb9 (fun t=>K t) s' x.data.toList)∧
   Hid (qcm (rest.data.toList++data.data.toList)=qcm x.data.toList)∧WInv64 K b Bp ty pre post w wr s' r' (len+data.size)) (fun d _=>strOf d)
 case atStart=>exact⟨d1,s2,r1,rfl,H4.out,hid (by rw[zl.out.1,← H1.out,zc.out,← H2.out]),hid (by rw[zl.out.2,← H2.out]),HV.out⟩
 case round=>
  clear HV;obtain⟨x,s',r',rfl,hx,HF,HT,hv⟩:=hrel;have HV:=hid hv;clear hv;have cp:=HV.out.prm.cells.1;by_cases zu:128≤x.size
  ·have ze:decide ((128:Int)≤(x.size:Int))=true:=by simp;omega
   go_wp2_with fail;clear cp;obtain⟨c0,c1,c2,c3,c4,c5,c6,c7,c8,c9,z5,z6,z7,z8⟩:=HV.out.prm.cells;have k0:=jcr c0;have k1:=jcr c1;have k2:=jcr c2;have k3:=jcr c3;have k4:=jcr c4;have k5:=jcr c5;have k6:=jcr c6;have k7:=jcr c7;have k8:=jcr c8;have k9:=jcr c9;have zh:=jcr z5;have zi:=jcr z6;have zj:=jcr z7;have zk:=jcr z8;have m0:=jcr (HV.out.cellState 0 (by omega));have m1:=jcr (HV.out.cellState 1 (by omega));have m2:=jcr (HV.out.cellState 2 (by omega));have m3:=jcr (HV.out.cellState 3 (by omega));have m4:=jcr (HV.out.cellState 4 (by omega));have m5:=jcr (HV.out.cellState 5 (by omega));have m6:=jcr (HV.out.cellState 6 (by omega));have m7:=jcr (HV.out.cellState 7 (by omega));simp only[W8.at,Nat.add_zero]at m0 m1 m2 m3 m4 m5 m6 m7;have zq:(x.extract 0 128).size=128:=by simp;omega
   have zb:=hid zq;clear zq c0 c1 c2 c3 c4 c5 c6 c7 c8 c9 z5 z6 z7 z8;refine qak 13 (by kernel_rfl) (by kernel_rfl) ?_;simp only[zks]
   repeat (first|go_big_quiet_step ((go_at_call 222;exact Calls.regrown_of (qcO K s' (x.extract 0 128) _ (by rw[zb.out];omega) (by rw[zb.out];omega) (HV.out.tab.below (below_regrown _ _ _) HV.out.tab.lt))))|quiet_step ((go_at_call 222;exact Calls.regrown_of (qcO K s' (x.extract 0 128) _ (by rw[zb.out];omega) (by rw[zb.out];omega) (HV.out.tab.below (below_regrown _ _ _) HV.out.tab.lt)))))
   refine jqn ?_;intro W2 z1;replace HV:=hid (HV.out.step z1);clear k0 k1 k2 k3 k4 k5 k6 k7 k8 k9 zh zi zj zk m0 m1 m2 m3 m4 m5 m6 m7 z1;generalize za:qdK (fun t=>K t) s' (x.extract 0 128).data.toList=s2 at *;have zc:=hid za;clear za;have z4:=hid (show W2.there b pre.length s2.cells64.size from HV.out.there);have z3:=hid (show (Tryz.prog.info? 175).map (·.size)=some s2.cells64.size from (jzi info8_64).2);have z2:=hid (show s2.cells64.all (·.oneCell')=true from by simp[Value.oneCell']);refine wpList_store_mid rfl 175 _ _ rfl b pre.length s2.cells64 rfl rfl z4.out z3.out z2.out ?_;replace HV:=hid (HV.out.setState s2);clear z4 z3 z2;generalize World.setCells _ _ _ _=W3 at *;simp only[Act.put];have cp:=HV.out.prm.cells.1;go_wp2_with fail;go_roundw
   case rel=>
    have hl:128≤x.data.toList.length:=by rw[← Lib.size_eq];exact zu
    have hf:=qd7 (fun t=>K t) s' x.data.toList hl;refine⟨x.extract 128 x.size,s2,r',rfl,by simp;omega,hid ?_,hid ?_,HV.out⟩
    ·rw[HF.out,hf.1,← zc.out,Lib.extract_data,Lib.extract_data,List.drop_zero,jtl (l:=List.drop 128 x.data.toList) (by simp)]
    ·rw[HT.out,hf.2,Lib.extract_data,jtl (l:=List.drop 128 x.data.toList) (by simp)]
   case measure=>simp[strOf];omega
  ·have ze:decide ((128:Int)≤(x.size:Int))=false:=by simp;omega
   go_wp2_with (go_at_call 181;refine (qek _ _ hx).mono ?_;rintro e W2⟨rfl,z1⟩;replace HV:=hid (HV.out.step z1);clear z1;have cr:=HV.out.cellRest;have fr:=HV.out.frozen (pre.length+8))
   go_end0
   replace HV:=hid (HV.out.setRest x);have hl:x.data.toList.length<128:=by rw[← Lib.size_eq];omega
   have hf:=qeB (fun t=>K t) s' x.data.toList hl;refine⟨rfl,x,?_,?_,HV.out.but⟩
   ·rw[HT.out,hf.2]
   ·rw[HF.out,hf.1];exact HV.out.run
theorem write64_any(K:Nat→Int)(b:Nat)(ty:TypeId)(pre post:List Value)(st:W8)(rest data:ByteArray)(len:Int)(w:World)
  (z0:w.heap[b]?=some (.cells (rc64 pre post st rest len) ty)) (hK:TabK w K) (z1:b≠3)
  (hr:rest.size<128) (hd:data.size≤1099511627776) (h0:0≤len) (h1:len≤1099511627776) :
  Calls Tryz.prog 200 #[.pointer (some ⟨b,pre.length,none⟩),qcC,.string data] w (WPost64 K b ty pre post st rest data len w):=by
 by_cases hz:rest.size=0
 ·exact write64_none K b ty pre post st rest data len w z0 hK z1 hz hd h0 h1
 ·by_cases hs:rest.size+data.size<128
  ·exact write64_short K b ty pre post st rest data len w z0 hK z1 (by omega) hs h0 h1
  ·exact write64_long K b ty pre post st rest data len w z0 hK z1 (by omega) hr (by omega) hd h0 h1
end
end Go.Proofs.YteomfleofeeofaaGreatDoor
