/- The reference's Sum256. -/
import Derived.Test.YteomfleofeeofaaGreatDoorShaRa
namespace Go.Proofs.YteomfleofeeofaaGreatDoor
open Go.Lib (hid)
open _root_.List (take_succ_cons drop_succ_cons)
set_option maxHeartbeats 16000000
open Go.Proofs.Tryz
set_option maxRecDepth 100000
set_option linter.unusedSimpArgs false
set_option linter.unusedVariables false
section
open Go.RowKit Go.Sort
set_option maxRecDepth 100000 in
theorem refSum32_any(s:ByteArray)(w:World)(hs:s.size≤1048576):Rt 43 #[.string s] w (.string ⟨(qd3 kf hf s.data.toList).toArray⟩):=by
 unfold Rt;obtain⟨i0,hi,zN,zO,zP⟩:=info_parts info_u32;go_enter func43,ntmps43;go_wp2_with fail;refine (constants_any _).mono ?_;rintro e W1⟨rfl,rfl⟩;go_wp2_with fail;refine (qgv _).mono ?_;rintro e W2⟨rfl,rfl⟩;have cK:∀ t,t<80→((w.alloc (.cells (kList.map (Value.int .u64)).toArray 57)).alloc (.cells (hList.map (Value.int .u64)).toArray 57)).cell? ⟨w.heap.size,t,none⟩=some (.int .u64 (kf t)):=fun t ht=>by
  rw[jco _ _ _ _ _ _ (qah (qad w _))];have hl:t<kList.length:=by simpa[kList]using ht
  simp[kf,hl]
 have cH:∀ t,t<8→((w.alloc (.cells (kList.map (Value.int .u64)).toArray 57)).alloc (.cells (hList.map (Value.int .u64)).toArray 57)).cell? ⟨w.heap.size+1,t,none⟩=some (.int .u64 (hf t)):=fun t ht=>by
  rw[jco _ _ _ _ _ _ (qaz w _ _)];have hl:t<hList.length:=by simpa[hList]using ht
  simp[hf,hl]
 have yg:=qaL w (.cells (kList.map (Value.int .u64)).toArray 57) (.cells (hList.map (Value.int .u64)).toArray 57);have zH:((w.alloc (.cells (kList.map (Value.int .u64)).toArray 57)).alloc (.cells (hList.map (Value.int .u64)).toArray 57)).heap.size=w.heap.size+2:=by simp
 have CK:=hid cK;have CH:=hid cH;have yb:=hid zH;clear cK cH zH;go_wp2_with fail;generalize ((w.alloc _).alloc _)=W0 at *;generalize yh:w.heap.size=B at *;have ys:=hid yh;clear yh
 go_loopw [5,6] (fun v i wr=>∃ (k:Nat) (ao:Option Addr) (zx:Nat),k≤8∧i=.int .i64 k∧v=.slice ao k zx∧Own wr (B+2) (.slice ao k zx) (qbV (qfU hf k))∧Below (B+2) W0 wr∧B+2≤wr.heap.size) (fun _ i _=>8-(intOf i).toNat)
 case atStart=>exact⟨0,none,0,by omega,rfl,rfl,Own.nil _ _,Below.refl _ _,by rw[yb.out];omega⟩
 case round=>
  obtain⟨k,ao,zx,hk,rfl,rfl,z4,hb,z3⟩:=hrel;have HO:=hid z4;clear z4;have HL:=hid (show (qbV (qfU hf k)).length=k from by rw[qdE];simp[qfU]);by_cases ze:k<8
  ·have hd:decide ((k:Int)<8)=true:=by simp;omega
   have ck:wr.cell? ⟨B+1,k,none⟩=some (.int .u64 (hf k)):=(hb.cell (by simp)).trans (CH.out k ze);have yw:=hid (iniL32_snoc hf k);generalize hf k=x at *;go_wp2_with (at_builtin;refine qaB rfl (.tmp 27) (.tmp 34) 99 rfl (B+2) 91 i0 (.int .u32 0) 4 underlying99 hi zN zO zP rfl ao k zx _ rfl (HO.out.alloc _) HL.out ⟨wr.heap.size,0,none⟩ 1 1 [.int .u32 (x/4294967296%4294967296)] rfl rfl (cell_one_new _ _ _) ?a2 ?a3 ?a4 ?a5 ?_)
   case a2=>intro u hu;simp at hu;subst hu;rfl
   case a3=>omega
   case a4=>omega
   case a5=>simp;omega
   intro yy zX W1 zq z7;have yE:Below (B+2) W0 W1:=qaV (hb.alloc z3 _) (by simp;omega) (HO.out.alloc _) z7;have y6:B+2≤W1.heap.size:=by have:=z7.size;simp at this;omega
   rw[qfz,← yw.out]at zq;clear z7 HO hb z3 ck;go_wp2_with fail;go_roundw
   case rel=>exact⟨k+1,yy,zX,by omega,by go_num,rfl,zq,yE,y6⟩
   case measure=>simp[intOf];omega
  ·have hd:decide ((k:Int)<8)=false:=by simp;omega
   obtain rfl:k=8:=by omega
   obtain⟨Hb,capH,hv,yn,zi⟩:=HO.out.some (by rw[HL.out];omega);rw[HL.out]at hv
   cases hv
   have yk:∀ t,t<80→wr.cell? ⟨B,t,none⟩=some (.int .u64 (kf t)):=fun t ht=>(hb.cell (by simp)).trans (CK.out t ht);have ya:=hid yn;have zU:=hid yk;clear HO HL hd yn yk CK CH;go_wp2_with fail;refine (full64_any s wr hs).mono ?_;rintro e W3⟨aoS,capS,rfl,y4,zu⟩;obtain⟨nb,zM,hnb0⟩:=pad_blocks64 s.size;have zL:(s.data.toList++padL 64 8 s.size).length=64*nb:=by rw[List.length_append,← Lib.size_eq];exact zM
   have HE:=hid (show qd3 kf hf s.data.toList=qcp (qcZ (fun t=>kf t/4294967296) (qbH hf) (s.data.toList++padL 64 8 s.size) nb) from by
    rw[qd3,qb8,← Lib.size_eq,zL];congr 2;omega)
   generalize hL:s.data.toList++padL 64 8 s.size=L at *;have yl:(Lib.byteCells L).length=64*nb:=by rw[Lib.byteCells_length];exact zL
   rw[zM]at y4;rw[zM];obtain⟨Sb,capS',hv,zZ,zz⟩:=y4.some (by omega);rw[yl]at hv
   cases hv
   have hnbb:64*nb≤2097152:=by
    have h1:(padL 64 8 s.size).length≤100:=by
     have:((2*64-(s.size%64+1+8))%64)<64:=Nat.mod_lt _ (by omega);simp[padL,qbL];omega
    omega
   have zF:RInv32 W3 W3 B Hb Sb (qbH hf) L:=by
    have h8:=ya.out;have hbs:=h8.base;refine⟨fun t ht=>(zu.cell (jbc (zU.out t ht))).trans (zU.out t ht),fun j hj=>?_,fun j hj=>?_,fun j x hx=>?_,But.refl _ _,by omega,jl3 zi zu.size,zz,?_⟩
    ·refine (zu.cell zi).trans (h8.cells j _ ?_);rcases lt8 hj with rfl|rfl|rfl|rfl|rfl|rfl|rfl|rfl<;>rfl
    ·exact (zu.frozen zi).trans (h8.room j (by have:=h8.le;rw[qdE]at this;simp[qfU]at this;omega)).2
    ·exact zZ.cells j _ (by simp[Lib.byteCells,hx])
    ·have:=zZ.base;omega
   have yC:Below B w W3:=by
    have h1:Below B w wr:=yg.trans (hb.mono (by omega));exact h1.trans (zu.mono (by omega))
   have HV:=hid zF;have y8:=hid zL;clear zF zZ y4 zu ya zU hL yl zM hb z3 yg zz zi zL yb;generalize hE:W3.heap.size=E at *;have zh:=hid hE;clear hE;go_wp2_with fail
   go_loopw [8] (fun zW wr=>∃ (i a:Nat),i≤nb∧Hid (a=64*i)∧zW=.int .i64 (a:Int)∧RInv32 W3 wr B Hb Sb (qcZ (fun t=>kf t/4294967296) (qbH hf) L i) L) (fun zW _=>64*nb-(intOf zW).toNat)
   case atStart=>exact⟨0,0,by omega,hid rfl,rfl,HV.out⟩
   case round=>
    clear HV;obtain⟨i,a,hin,HA,rfl,hv⟩:=hrel;have HV:=hid hv;clear hv;by_cases hlt:i<nb
    ·have ha64:(a:Int)+64≤64*(nb:Int):=by have:=HA.out;omega
     have hd:decide ((a:Int)<64*(nb:Int))=true:=by simp;omega
     have HWS:=hid (show ((L.drop a).take 64).length=64 from by have:=y8.out;rw[List.length_take,List.length_drop];omega);generalize zG:qcZ (fun t=>kf t/4294967296) (qbH hf) L i=st at *;have yc:=hid zG;clear zG;generalize y7:qa5 (qbk ((L.drop a).take 64)) 48=ws at *;have zT:=hid y7;have zK:=hid (show ws.length=64 from by rw[← y7,qcR _ (qck _)]);clear y7;go_wp2_with fail
     go_loopw [9,10] (fun v t wr=>∃ (k:Nat) (ao:Option Addr) (cp:Nat),k≤64∧t=.int .i64 k∧v=.slice ao k cp∧Own wr E (.slice ao k cp) (qbV (ws.take k))∧RInv32 W3 wr B Hb Sb st L∧E≤wr.heap.size) (fun _ t _=>64-(intOf t).toNat)
     case atStart=>exact⟨0,none,0,by omega,rfl,rfl,Own.nil _ _,HV.out,by rw[← zh.out];exact HV.out.but.size⟩
     case round=>
      clear HV;obtain⟨k,ao,cp,hk,rfl,rfl,z4,hv,z3⟩:=hrel;have HV:=hid hv;have HO:=hid z4;clear hv z4;have HL:=hid (show (qbV (ws.take k)).length=k from by rw[qdE,List.length_take,zK.out];omega);by_cases hk64:k<64
      ·have hd:decide ((k:Int)<64)=true:=by simp;omega
       by_cases zs:k<16
       ·have y2:decide ((k:Int)<16)=true:=by simp;omega
        have hp0:(0:Int)≤(a:Int)+4*(k:Int):=by omega
        have hp1:(a:Int)+4*(k:Int)+3<64*(nb:Int):=by omega
        have zE:∀ q,q<4→∃ x:UInt8,L[a+4*k+q]?=some x∧wr.cell? ⟨Sb,a+4*k+q,none⟩=some (.int .u8 x.toNat):=fun q hq=>by
         have hl:a+4*k+q<L.length:=by have:=y8.out;omega
         exact⟨L[a+4*k+q],List.getElem?_eq_getElem hl,HV.out.s _ _ (List.getElem?_eq_getElem hl)⟩
        obtain⟨x0,l0,s0⟩:=zE 0 (by omega);obtain⟨x1,l1,s1⟩:=zE 1 (by omega);obtain⟨x2,l2,s2⟩:=zE 2 (by omega);obtain⟨x3,l3,s3⟩:=zE 3 (by omega);rw[Nat.add_zero]at s0 l0;have L0:=hid l0;have L1:=hid l1;have L2:=hid l2;have L3:=hid l3;clear zE l0 l1 l2 l3;go_wp2_with fail;have k0:=jcr s0;have k1:=jcr s1;have k2:=jcr s2;have k3:=jcr s3;refine qbx 30 _ rfl rfl rfl (by kernel_rfl) (by kernel_rfl) (fun _ _ _ _ h=>h) ?_;simp only[Nat.reduceSub,zks];dsimp only[Act.put,Act.eval]
        repeat (first|go_big_quiet_step (fail)|quiet_step (fail))
        refine jqn ?_;intro W4 z9;clear k0 k1 k2 k3;have zk:=z9.size;have zb:=hid (HO.out.below z9);have yj:Below E wr W4:=z9.mono z3;go_wp2_with (at_builtin;refine qaB rfl (.tmp 54) (.tmp 84) 99 rfl E 91 i0 (.int .u32 0) 4 underlying99 hi zN zO zP rfl ao k cp _ rfl (zb.out.alloc _) HL.out ⟨W4.heap.size,0,none⟩ 1 1 [.int .u32 _] rfl rfl (cell_one_new _ _ _) ?b2 ?b3 ?b4 ?b5 ?_)
        case b2=>intro u hu;simp at hu;subst hu;rfl
        case b3=>omega
        case b4=>omega
        case b5=>simp;omega
        intro yd ye W5 z2 z0;have za:Below E wr W5:=qaV (yj.alloc (by omega) _) (by simp;omega) (zb.out.alloc _) z0;have z6:E≤W5.heap.size:=by have:=z0.size;simp at this;omega
        rw[or_bytes32,qfz]at z2;have yH:=hid (HV.out.step (by rw[zh.out];exact za));have yu:=hid (show (ws.take k)++[ld32 [x0,x1,x2,x3]]=ws.take (k+1) from by
         rw[← zT.out,sch32_take _ (qck _) 48 k zs,← four_bytes L a k x0 x1 x2 x3 zs L0.out L1.out L2.out L3.out];simp[qbk,zs])
        rw[yu.out]at z2;clear z0 HO zb z9 yj s0 s1 s2 s3 za;go_wp2_with fail;go_roundw
        case rel=>exact⟨k+1,yd,ye,by omega,by go_num,rfl,z2,yH.out,z6⟩
        case measure=>simp[intOf];omega
       ·have y2:decide ((k:Int)<16)=false:=by simp;omega
        obtain⟨Wb,yz,zg,zv,y1⟩:=HO.out.some (by rw[HL.out];omega);rw[HL.out]at zg
        cases zg
        have zm:∀ j,j<k→wr.cell? ⟨Wb,j,none⟩=some (.int .u32 ((ws.take k).getD j 0)):=fun j hj=>zv.cells j _ (by
         have y3:j<(ws.take k).length:=by rw[List.length_take,zK.out];omega
         simp only[qbV,List.getElem?_map,List.getElem?_eq_getElem y3,Option.map_some,List.getD_eq_getElem?_getD,Option.getD_some])
        have he:ext32 (ws.take k) k=((ws.take k).getD (k-16) 0+(ws.take k).getD (k-7) 0+qes ((ws.take k).getD (k-15) 0) 7 18 3+qes ((ws.take k).getD (k-2) 0) 17 19 10)%4294967296:=rfl;have zr:=zm (k-16) (by omega);have w7:=zm (k-7) (by omega);have yp:=zm (k-15) (by omega);have w2:=zm (k-2) (by omega);generalize (ws.take k).getD (k-16) 0=x16 at *;generalize (ws.take k).getD (k-7) 0=x7 at *;generalize (ws.take k).getD (k-15) 0=x15 at *;generalize (ws.take k).getD (k-2) 0=x2 at *;have yx:=hid he;have yv:=hid (show (ws.take k)++[ext32 (ws.take k) k]=ws.take (k+1) from by
         rw[← zT.out,sch32_take2 _ (qck _) 48 k (by omega) (by omega)])
        clear he zm zv;have yA:(0:Int)≤(k:Int)-15:=by omega
        have yB:(k:Int)-15<(k:Int):=by omega
        go_wp2_with fail;have yM:=jcr yp;refine qav (by kernel_rfl) (by kernel_rfl) ?_
        repeat (first|go_big_quiet_step ((go_at_call 92;exact Calls.regrown_of (qcK _ _ _ (by omega) (by omega))))|quiet_step ((go_at_call 92;exact Calls.regrown_of (qcK _ _ _ (by omega) (by omega)))))
        refine jqn ?_;intro W4 z9;replace zr:=(z9.cell (jbc zr)).trans zr;replace w7:=(z9.cell (jbc w7)).trans w7;replace w2:=(z9.cell (jbc w2)).trans w2;have zb:=hid (HO.out.below z9);have zB:Below E wr W4:=z9.mono z3;have zk:E≤W4.heap.size:=jlt z3 z9.size;clear yM yp z9 yA yB;go_wp2_with fail;have k2:=jcr w2;refine qav (by kernel_rfl) (by kernel_rfl) ?_
        repeat (first|go_big_quiet_step ((go_at_call 92;exact Calls.regrown_of (qcK _ _ _ (by omega) (by omega))))|quiet_step ((go_at_call 92;exact Calls.regrown_of (qcK _ _ _ (by omega) (by omega)))))
        refine jqn ?_;intro W5 za;replace zr:=(za.cell (jbc zr)).trans zr;replace w7:=(za.cell (jbc w7)).trans w7;replace zb:=hid (zb.out.below za);have zC:Below E wr W5:=zB.trans (za.mono zk);have z6:E≤W5.heap.size:=jlt zk za.size;clear k2 w2 za zB zk;go_wp2_with fail;have yN:=jcr zr;have k7:=jcr w7;refine qbx 16 _ rfl rfl rfl (by kernel_rfl) (by kernel_rfl) (fun _ _ _ _ h=>h) ?_;simp only[Nat.reduceSub,zks];dsimp only[Act.put,Act.eval]
        repeat (first|go_big_quiet_step (fail)|quiet_step (fail))
        refine jqn ?_;intro W6 z8;replace zb:=hid (zb.out.below z8);have zd:Below E wr W6:=zC.trans (z8.mono z6);have zl:E≤W6.heap.size:=jlt z6 z8.size;clear yN k7 zr w7 z8 zC z6;go_wp2_with (at_builtin;refine qaB rfl (.tmp 126) (.tmp 142) 99 rfl E 91 i0 (.int .u32 0) 4 underlying99 hi zN zO zP rfl (some ⟨Wb,0,none⟩) k cp _ rfl (zb.out.alloc _) HL.out ⟨W6.heap.size,0,none⟩ 1 1 [.int .u32 _] rfl rfl (cell_one_new _ _ _) ?e2 ?e3 ?e4 ?e5 ?_)
        case e2=>intro u hu;simp at hu;subst hu;rfl
        case e3=>omega
        case e4=>omega
        case e5=>simp;omega
        intro zw zy W7 z5 z1;have zA:Below E wr W7:=qaV (zd.alloc (by omega) _) (by simp;omega) (zb.out.alloc _) z1;have zt:E≤W7.heap.size:=by have:=z1.size;simp at this;omega
        have zf:Own W7 E (.slice zw (k+1) zy) (qbV (ws.take (k+1))):=by
         rw[← yv.out,← qfz,yx.out];exact z5
        have yI:=hid (HV.out.step (by rw[zh.out];exact zA));clear z5 z1 HO zb zd zl zA;go_wp2_with fail;go_roundw
        case rel=>exact⟨k+1,zw,zy,by omega,by go_num,rfl,zf,yI.out,zt⟩
        case measure=>simp[intOf];omega
      ·have hd:decide ((k:Int)<64)=false:=by simp;omega
       obtain rfl:k=64:=by omega
       obtain⟨Wb,yz,zg,zv,y1⟩:=HO.out.some (by rw[HL.out];omega);rw[HL.out]at zg
       cases zg
       have zm:∀ j,j<64→wr.cell? ⟨Wb,j,none⟩=some (.int .u32 (ws.getD j 0)):=fun j hj=>zv.cells j _ (by
        have y3:j<ws.length:=by rw[zK.out];omega
        rw[jtl (by rw[zK.out];omega)];simp only[qbV,List.getElem?_map,List.getElem?_eq_getElem y3,Option.map_some,List.getD_eq_getElem?_getD,Option.getD_some])
       have zV:=hid zm;have yO:=zv.base;clear zm zv HO HL;have zo:∀ j u,(qbV [st.a,st.b,st.c,st.d,st.e,st.f,st.g,st.h])[j]?=some u→wr.cell? ((⟨Hb,0,none⟩:Addr).add j)=some u:=fun j u hj=>by
        have ym:j<8:=by have:=(List.getElem?_eq_some_iff.1 hj).1;simpa[qbV]using this
        rw[Addr.add_lit,Nat.zero_add,HV.out.h j ym,← hj];rcases lt8 ym with rfl|rfl|rfl|rfl|rfl|rfl|rfl|rfl<;>rfl
       have y9:=hid zo;clear zo;go_wp2_with (at_builtin;refine qaB rfl (.tmp 144) (.tmp 145) 99 rfl E 91 i0 (.int .u32 0) 4 underlying99 hi zN zO zP rfl none 0 0 [] rfl (Own.nil _ _) rfl ⟨Hb,0,none⟩ 8 zx (qbV [st.a,st.b,st.c,st.d,st.e,st.f,st.g,st.h]) rfl rfl y9.out ?h2 ?h3 ?h4 ?h5 ?_)
       case h2=>intro u hu;simp only[qbV,List.mem_map]at hu;obtain⟨_,_,rfl⟩:=hu;rfl
       case h3=>omega
       case h4=>omega
       case h5=>exact z3
       intro yd ye W5 z2 z0
       try simp only[Nat.zero_add,List.nil_append]at z2
       try simp only[Nat.zero_add]
       have za:Below E wr W5:=(Below.refl E wr).grown z0 z3 (by intro k hk;simp[Value.ownBlock]at hk);have zD:Below wr.heap.size wr W5:=(Below.refl _ wr).grown z0 (jlr _) (by intro k hk;simp[Value.ownBlock]at hk);have z6:E≤W5.heap.size:=jlt z3 z0.size;obtain⟨V,cpV,zg,y5,y0⟩:=z2.some (by simp[qbV]);simp only[qdE,List.length_cons,List.length_nil,Nat.zero_add,Nat.reduceAdd]at zg
       cases zg
       have yi:VInv32 W5 E V Wb st ws:=⟨fun j hj=>y5.cells j _ (by rcases lt8 hj with rfl|rfl|rfl|rfl|rfl|rfl|rfl|rfl<;>rfl),fun j hj=>(zD.cell (jbc (zV.out j hj))).trans (zV.out j hj),y5.base,yO⟩;have zc:=hid yi;replace HV:=hid (HV.out.step (by rw[zh.out];exact za));clear yi y5 y0 z2 z0 za zD zV y9 z3 hd;go_wp2_with fail;refine loop4_32 zh (by kernel_rfl) zc.out HV.out z6 ?_;clear zc HV z6;intro wr V cv ⟨xa,xb,xc,xd,xe,xf,xg,xh⟩ u16 u17 u147 u148 u149 u150 u151 u152 u153 u154 u155 u156 u157 u158 u159 u160 u161 u162 u163 u164 u165 u166 u167 u168 u169 u170 u171 u172 u173 u174 u175 u176 u177 u178 u179 u180 u181 u182 u183 u184 u185 u186 u187 u188 u189 u190 u191 u192 u193 u194 u195 u196 u197 u198 u199 u200 u201 u202 u203 u204 u205 u206 u207 u208 u209 u210 u211 u212 u213 u214 u215 u216 u217 u218 u219 u220 u221 u222 u223 u224 u225 u226 u227 u228 u229 u230 u231 u232 u233 u234 u235 u236 u237 u238 u239 u240 u241 u242 u243 u244 u245 u246 u247 u248 u249 u250 u251 u252 u253 u254 u255 u256 u257 u258 u259 u260 u261 u262 HR zJ hv z3;have zc:=hid zJ;have HV:=hid hv;clear zJ hv;have yD:Hb<E:=by rw[← zh.out];exact HV.out.lH
       go_wp2_with fail
       go_loopw [18] (fun i wr=>∃ k:Nat,k≤8∧i=.int .i64 k∧VInv32 wr E V Wb ⟨xa,xb,xc,xd,xe,xf,xg,xh⟩ ws∧RInv32 W3 wr B Hb Sb (mixS st ⟨xa,xb,xc,xd,xe,xf,xg,xh⟩ k) L∧E≤wr.heap.size) (fun i _=>8-(intOf i).toNat)
       case atStart=>exact⟨0,by omega,rfl,zc.out,HV.out,z3⟩
       case round=>
        clear zc HV z3;obtain⟨k,hk,rfl,zJ,hv,z3⟩:=hrel;have zc:=hid zJ;have HV:=hid hv;clear zJ hv;by_cases ze:k<8
        ·have hd:decide ((k:Int)<8)=true:=by simp;omega
         obtain⟨m1,m2,m3⟩:=mixS_at st ⟨xa,xb,xc,xd,xe,xf,xg,xh⟩ k ze;have ch:=HV.out.h k ze;have yf:=zc.out.v k ze;rw[m2]at ch;have M1:=hid m1;have M3:=hid m3;clear m1 m2 m3;generalize hy:W8.at ⟨xa,xb,xc,xd,xe,xf,xg,xh⟩ k=y at *;generalize hz:st.at k=z at *;have HY:=hid hy;have HZ':=hid hz;clear hy hz;go_wp2_with fail;have q1:=jcr ch;have q2:=jcr yf;refine qak 12 (by kernel_rfl) (by kernel_rfl) ?_;simp only[zks]
         repeat (first|go_big_quiet_step (fail)|quiet_step (fail))
         refine jqn ?_;intro W6 z8;replace zc:=hid (zc.out.step z8);replace HV:=hid (HV.out.step (by rw[zh.out];exact z8.mono z3));have zl:E≤W6.heap.size:=jlt z3 z8.size;clear q1 q2 yf ch z8 z3;have ch:=HV.out.h k ze;have fh:=HV.out.f k ze;go_wp2_with fail;go_roundw
         case rel=>
          refine⟨k+1,by omega,by go_num,zc.out.set yD k _,HV.out.set k ze _ ?_ M3.out,by simpa[World.setCell]using zl⟩;rw[M1.out]
         case measure=>simp[intOf];omega
        ·have hd:decide ((k:Int)<8)=false:=by simp;omega
         obtain rfl:k=8:=by omega
         have zj:=HV.out;rw[mixS_eight]at zj;have zp:add32 st ⟨xa,xb,xc,xd,xe,xf,xg,xh⟩=qcZ (fun t=>kf t/4294967296) (qbH hf) L (i+1):=by
          rw[qcZ,yc.out,qdJ,← HA.out,zT.out,HR.out]
         rw[zp]at zj;have HF:=hid zj;clear zj zp zc HV;go_wp2_with fail;go_roundw
         case rel=>exact⟨i+1,a+64,by omega,hid (by have:=HA.out;omega),by go_num,HF.out⟩
         case measure=>simp[intOf];have:=HA.out;omega
    ·have hd:decide ((a:Int)<64*(nb:Int))=false:=by have:=HA.out;simp;omega
     obtain rfl:i=nb:=by omega
     generalize zG:qcZ (fun t=>kf t/4294967296) (qbH hf) L i=st at *;have yc:=hid zG;clear zG;obtain⟨i8,yG,yJ,yK,yL⟩:=info_parts qca;have zI:E≤wr.heap.size:=by rw[← zh.out];exact HV.out.but.size
     go_wp2_with fail
     go_loopw [19,20] (fun v t wr=>∃ (k:Nat) (ao:Option Addr) (cp:Nat),k≤8∧t=.int .i64 k∧v=.slice ao (4*k) cp∧Own wr E (.slice ao (4*k) cp) (Lib.byteCells ((qcp st).take (4*k)))∧RInv32 W3 wr B Hb Sb st L∧E≤wr.heap.size) (fun _ t _=>8-(intOf t).toNat)
     case atStart=>exact⟨0,none,0,by omega,rfl,rfl,Own.nil _ _,HV.out,zI⟩
     case round=>
      clear HV zI hd;obtain⟨k,ao,cp,hk,rfl,rfl,z4,hv,z3⟩:=hrel;have HV:=hid hv;have HO:=hid z4;clear hv z4;have HL:=hid (show (Lib.byteCells ((qcp st).take (4*k))).length=4*k from by rw[Lib.byteCells_length,List.length_take,qcx];omega);by_cases ze:k<8
      ·have hd:decide ((k:Int)<8)=true:=by simp;omega
       have ch:=HV.out.h k ze;have yt:=hid (dig32_four st k ze);have zR:=hid (qde (st.at k) 24);have zQ:=hid (qde (st.at k) 16);have yr:=hid (qde (st.at k) 8);have yq:=hid (qde (st.at k) 0);generalize st.at k=x at *;go_wp2_with fail;have q1:=jcr ch;refine qbx 24 _ rfl rfl rfl (by kernel_rfl) (by kernel_rfl) (fun _ _ _ _ h=>h) ?_;simp only[Nat.reduceSub,zks];dsimp only[Act.put,Act.eval]
       repeat (first|go_big_quiet_step (fail)|quiet_step (fail))
       refine jqn ?_;intro W6 z8;have zS:=hid (HO.out.below z8);have zd:Below E wr W6:=z8.mono z3;have zl:E≤W6.heap.size:=jlt z3 z8.size;clear q1 ch z8;go_wp2_with (at_builtin;refine qaB rfl (.tmp 283) (.tmp 307) 41 rfl E 5 i8 (.int .u8 0) 1 underlying41 yG yJ yK yL rfl ao (4*k) cp _ rfl (zS.out.alloc _) HL.out ⟨W6.heap.size,0,none⟩ 4 4 [_,_,_,_] rfl rfl (four_new _ _ _ _ _ _) ?p2 ?p3 ?p4 ?p5 ?_)
       case p2=>intro u hu;simp only[List.mem_cons,List.not_mem_nil,or_false]at hu;rcases hu with rfl|rfl|rfl|rfl<;>rfl
       case p3=>omega
       case p4=>omega
       case p5=>simp;omega
       intro zw zy W7 z5 z1;have zA:Below E wr W7:=qaV (zd.alloc (by omega) _) (by simp;omega) (zS.out.alloc _) z1;have zt:E≤W7.heap.size:=by have:=z1.size;simp at this;omega
       have zf:Own W7 E (.slice zw (4*(k+1)) zy) (Lib.byteCells ((qcp st).take (4*(k+1)))):=by
        have e:Lib.byteCells [qc9 x 24,qc9 x 16,qc9 x 8,qc9 x 0]=[.int .u8 (x/16777216%256),.int .u8 (x/65536%256),.int .u8 (x/256%256),.int .u8 (x%256)]:=by
         simp only[Lib.byteCells,List.map_cons,List.map_nil,zR.out,zQ.out,yr.out,yq.out];simp
        rw[yt.out,Lib.byteCells_append,e];exact z5
       replace HV:=hid (HV.out.step (by rw[zh.out];exact zA));clear z5 z1 HO zS zd zA;go_wp2_with fail;go_roundw
       case rel=>exact⟨k+1,zw,zy,by omega,by go_num,rfl,zf,HV.out,zt⟩
       case measure=>simp[intOf];omega
      ·have hd:decide ((k:Int)<8)=false:=by simp;omega
       obtain rfl:k=8:=by omega
       have zn:(qcp st).take (4*8)=qcp st:=jtl (by rw[qcx];omega);rw[zn]at HO HL;obtain⟨Ob,cpO,zg,yo,_⟩:=HO.out.some (by rw[HL.out];omega);rw[HL.out]at zg
       cases zg
       have yF:=qbf wr Ob cp (qcp st) (fun j x hx=>yo.cells j _ (by simp[Lib.byteCells,hx]));rw[qcx]at yF;have zY:Below B w wr:=yC.trans ((HV.out.but.below (jll HV.out.lB) (by have:=HV.out.lB;have:=HV.out.lH;omega)));clear yo HO HL zn;go_wp2_with fail;go_ret;exact⟨by rw[HE.out];rfl,by rw[ys.out];exact zY⟩
end
end Go.Proofs.YteomfleofeeofaaGreatDoor
