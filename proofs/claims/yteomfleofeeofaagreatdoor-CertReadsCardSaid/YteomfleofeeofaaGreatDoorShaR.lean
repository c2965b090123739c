/- The reference's Sum512. -/
import Derived.Test.YteomfleofeeofaaGreatDoorShaRb
import Derived.Test.YteomfleofeeofaaGreatDoorShaRc
import Derived.Test.YteomfleofeeofaaGreatDoorShaRd
namespace Go.Proofs.YteomfleofeeofaaGreatDoor
open Go.Lib (hid)
set_option maxHeartbeats 16000000
set_option maxRecDepth 100000
set_option linter.unusedSimpArgs false
set_option linter.unusedVariables false
section
open Go.RowKit Go.Sort
theorem refSum64_any(s:ByteArray)(w:World)(hs:s.size≤1048576):Rt 66 #[.string s] w (.string ⟨(qdl kf hf s.data.toList).toArray⟩):=by
 unfold Rt;obtain⟨i0,hi,zQ,zR,zS⟩:=info_parts info_u64;go_enter Tryz.func66,Tryz.ntmps66;go_wp2_with fail;refine (constants_any _).mono ?_;rintro e W1⟨rfl,rfl⟩;go_wp2_with fail;refine (qgv _).mono ?_;rintro e W2⟨rfl,rfl⟩;have cK:∀ t,t<80→((w.alloc (.cells (kList.map (Value.int .u64)).toArray 57)).alloc (.cells (hList.map (Value.int .u64)).toArray 57)).cell? ⟨w.heap.size,t,none⟩=some (.int .u64 (kf t)):=fun t ht=>by
  rw[jco _ _ _ _ _ _ (qah (qad w _))];have hl:t<kList.length:=by simpa[kList]using ht
  simp[kf,hl]
 have cH:∀ t,t<8→((w.alloc (.cells (kList.map (Value.int .u64)).toArray 57)).alloc (.cells (hList.map (Value.int .u64)).toArray 57)).cell? ⟨w.heap.size+1,t,none⟩=some (.int .u64 (hf t)):=fun t ht=>by
  rw[jco _ _ _ _ _ _ (qaz w _ _)];have hl:t<hList.length:=by simpa[hList]using ht
  simp[hf,hl]
 have fH:∀ t,((w.alloc (.cells (kList.map (Value.int .u64)).toArray 57)).alloc (.cells (hList.map (Value.int .u64)).toArray 57)).frozen? ⟨w.heap.size+1,t,none⟩=false:=fun t=>jfr _ _ _ _ _ (qaz w _ _);have zA:=qaL w (.cells (kList.map (Value.int .u64)).toArray 57) (.cells (hList.map (Value.int .u64)).toArray 57);have zg:((w.alloc (.cells (kList.map (Value.int .u64)).toArray 57)).alloc (.cells (hList.map (Value.int .u64)).toArray 57)).heap.size=w.heap.size+2:=by simp
 have CK:=hid cK;have CH:=hid cH;have FH:=hid fH;have zw:=hid zg;clear cK cH fH zg;go_wp2_with fail;generalize ((w.alloc _).alloc _)=W0 at *;generalize zB:w.heap.size=B at *;have zK:=hid zB;clear zB;refine (full128_any s W0 hs).mono ?_;rintro e W3⟨aoS,capS,rfl,zs,z9⟩;obtain⟨nb,zl,hnb0⟩:=pad_blocks128 s.size;have zj:(s.data.toList++padL 128 16 s.size).length=128*nb:=by rw[List.length_append,← Lib.size_eq];exact zl
 have HE:=hid (show qdl kf hf s.data.toList=qcq (qc0 (fun t=>kf t) (qbI hf) (s.data.toList++padL 128 16 s.size) nb) from by
  rw[qdl,qb9,← Lib.size_eq,zj];congr 2;omega)
 generalize hL:s.data.toList++padL 128 16 s.size=L at *;have zF:(Lib.byteCells L).length=128*nb:=by rw[Lib.byteCells_length];exact zj
 rw[zl]at zs;rw[zl];obtain⟨Sb,capS',hv,zp,zb⟩:=zs.some (by omega);rw[zF]at hv
 cases hv
 have zr:128*nb≤2097152:=by
  have h1:(padL 128 16 s.size).length≤200:=by
   have:((2*128-(s.size%128+1+16))%128)<128:=Nat.mod_lt _ (by omega);simp[padL,qbL];omega
  omega
 have hS0:=zw.out;have ze:RInv64 W3 W3 B (B+1) Sb (qbI hf) L:=by
  refine⟨fun t ht=>(z9.cell (jbc (CK.out t ht))).trans (CK.out t ht),fun j hj=>?_,fun j hj=>?_,fun j x hx=>?_,But.refl _ _,by omega,jl3 (by omega) z9.size,zb,?_⟩
  ·refine ((z9.cell (jbc (CH.out j hj))).trans (CH.out j hj)).trans ?_;rcases lt8 hj with rfl|rfl|rfl|rfl|rfl|rfl|rfl|rfl<;>rfl
  ·exact (z9.frozen (jbc (CH.out j hj))).trans (FH.out j)
  ·exact zp.cells j _ (by simp[Lib.byteCells,hx])
  ·have:=zp.base;omega
 have zN:Below B w W3:=zA.trans (z9.mono (by omega));have HV:=hid ze;have zL:=hid zj;clear ze zp zs z9 hL zF zl zA zb zj zw CK CH FH;generalize hE:W3.heap.size=E at *;have z6:=hid hE;clear hE;go_wp2_with fail
 go_loopw [6] (fun zn wr=>∃ (i a:Nat),i≤nb∧Hid (a=128*i)∧zn=.int .i64 (a:Int)∧RInv64 W3 wr B (B+1) Sb (qc0 (fun t=>kf t) (qbI hf) L i) L) (fun zn _=>128*nb-(intOf zn).toNat)
 case atStart=>exact⟨0,0,by omega,hid rfl,rfl,HV.out⟩
 case round=>
  clear HV;obtain⟨i,a,hin,HA,rfl,hv⟩:=hrel;have HV:=hid hv;clear hv;by_cases hlt:i<nb
  ·have zc:a+128≤128*nb:=by have:=HA.out;omega
   have hd:decide ((a:Int)<128*(nb:Int))=true:=by simp;omega
   generalize zf:qc0 (fun t=>kf t) (qbI hf) L i=st at *;have zx:=hid zf;clear zf;generalize zJ:qa3 (qbg ((L.drop a).take 128)) 64=ws at *;have zy:=hid zJ;clear zJ;have z4:E≤wr.heap.size:=by rw[← z6.out];exact HV.out.but.size
   go_wp2_with fail;refine loop2_64 z6 (by kernel_rfl) zL zc zr zy HV.out z4 (fun _ _ _ _ _ h=>h) ?_;clear HV z4;intro wr Wb cpW u9 u10 u11 u12 u31 u32 u33 u34 u35 u36 u37 u38 u39 u40 u41 u42 u43 u44 u45 u46 u47 u48 u49 u50 u51 u52 u53 u54 u55 u56 u57 u58 u59 u60 u61 u62 u63 u64 u65 u66 u67 u68 u69 u70 u71 u72 u73 u74 u75 u76 u77 u78 u79 u80 u81 u82 u83 u84 u85 u86 u87 u88 u89 u90 u91 u92 u93 u94 u95 u96 u97 u98 u99 u100 u101 u102 u103 u104 u105 u106 u107 u108 u109 u110 u111 u112 u113 u114 u115 zE zT hv z3;have HV:=hid hv;have zm:=hid zE;clear hv zE;have z7:∀ j u,(qb6 [st.a,st.b,st.c,st.d,st.e,st.f,st.g,st.h])[j]?=some u→wr.cell? ((⟨B+1,0,none⟩:Addr).add j)=some u:=fun j u hj=>by
    have zG:j<8:=by have:=(List.getElem?_eq_some_iff.1 hj).1;simpa[qb6]using this
    rw[Addr.add_lit,Nat.zero_add,HV.out.h j zG,← hj];rcases lt8 zG with rfl|rfl|rfl|rfl|rfl|rfl|rfl|rfl<;>rfl
   have zv:=hid z7;clear z7;go_wp2_with (at_builtin;refine qaB rfl (.tmp 116) (.tmp 117) 97 rfl E 57 i0 (.int .u64 0) 8 Tryz.underlying97 hi zQ zR zS rfl none 0 0 [] rfl (Own.nil _ _) rfl ⟨B+1,0,none⟩ 8 8 (qb6 [st.a,st.b,st.c,st.d,st.e,st.f,st.g,st.h]) rfl rfl zv.out ?h2 ?h3 ?h4 ?h5 ?_)
   case h2=>intro u hu;simp only[qb6,List.mem_map]at hu;obtain⟨_,_,rfl⟩:=hu;rfl
   case h3=>omega
   case h4=>omega
   case h5=>exact z3
   intro ao5 cp5 W5 z2 z0
   try simp only[Nat.zero_add,List.nil_append]at z2
   try simp only[Nat.zero_add]
   have zD:Below E wr W5:=(Below.refl E wr).grown z0 z3 (by intro k hk;simp[Value.ownBlock]at hk);have zd:Below wr.heap.size wr W5:=(Below.refl _ wr).grown z0 (jlr _) (by intro k hk;simp[Value.ownBlock]at hk);have zh:E≤W5.heap.size:=jlt z3 z0.size;obtain⟨V,cpV,zI,zt,zq⟩:=z2.some (by simp[qb6]);simp only[qgi,List.length_cons,List.length_nil,Nat.zero_add,Nat.reduceAdd]at zI
   cases zI
   have zC:VInv64 W5 E V Wb st ws:=⟨fun j hj=>zt.cells j _ (by rcases lt8 hj with rfl|rfl|rfl|rfl|rfl|rfl|rfl|rfl<;>rfl),fun j hj=>(zd.cell (jbc (zm.out j hj))).trans (zm.out j hj),zt.base,zT⟩;have z1:=hid zC;replace HV:=hid (HV.out.step (by rw[z6.out];exact zD));clear zC zt zq z2 z0 zD zd zm zv z3 hd;go_wp2_with fail;refine loop4_64 z6 (by kernel_rfl) z1.out HV.out zh ?_;clear z1 HV zh;intro wr V cv ⟨xa,xb,xc,xd,xe,xf,xg,xh⟩ u15 u16 u119 u120 u121 u122 u123 u124 u125 u126 u127 u128 u129 u130 u131 u132 u133 u134 u135 u136 u137 u138 u139 u140 u141 u142 u143 u144 u145 u146 u147 u148 u149 u150 u151 u152 u153 u154 u155 u156 u157 u158 u159 u160 u161 u162 u163 u164 u165 u166 u167 u168 u169 u170 u171 u172 u173 u174 u175 u176 u177 u178 u179 u180 u181 u182 u183 u184 u185 u186 u187 u188 u189 u190 u191 u192 u193 u194 u195 u196 u197 u198 u199 u200 u201 u202 u203 u204 u205 u206 u207 u208 u209 u210 u211 u212 u213 u214 u215 u216 u217 u218 u219 u220 u221 u222 u223 u224 u225 u226 u227 u228 u229 u230 u231 u232 HR zi hv z3;have z1:=hid zi;have HV:=hid hv;clear zi hv;have zO:B+1<E:=by rw[← z6.out];exact HV.out.lH
   go_wp2_with fail
   go_loopw [17] (fun i wr=>∃ k:Nat,k≤8∧i=.int .i64 k∧VInv64 wr E V Wb ⟨xa,xb,xc,xd,xe,xf,xg,xh⟩ ws∧RInv64 W3 wr B (B+1) Sb (mixT st ⟨xa,xb,xc,xd,xe,xf,xg,xh⟩ k) L∧E≤wr.heap.size) (fun i _=>8-(intOf i).toNat)
   case atStart=>exact⟨0,by omega,rfl,z1.out,HV.out,z3⟩
   case round=>
    clear z1 HV z3;obtain⟨k,hk,rfl,zi,hv,z3⟩:=hrel;have z1:=hid zi;have HV:=hid hv;clear zi hv;by_cases za:k<8
    ·have hd:decide ((k:Int)<8)=true:=by simp;omega
     obtain⟨m1,m2,m3⟩:=mixT_at st ⟨xa,xb,xc,xd,xe,xf,xg,xh⟩ k za;have ch:=HV.out.h k za;have zz:=z1.out.v k za;rw[m2]at ch;have M1:=hid m1;have M3:=hid m3;clear m1 m2 m3;generalize hy:W8.at ⟨xa,xb,xc,xd,xe,xf,xg,xh⟩ k=y at *;generalize hz:st.at k=z at *;have HY:=hid hy;have HZ':=hid hz;clear hy hz;go_wp2_with fail;have q1:=jcr ch;have q2:=jcr zz;refine qak 12 (by kernel_rfl) (by kernel_rfl) ?_;simp only[List.take_succ_cons,List.take_zero,List.drop_succ_cons,List.drop_zero]
     repeat (first|go_big_quiet_step (fail)|quiet_step (fail))
     refine jqn ?_;intro W6 zk;replace z1:=hid (z1.out.step zk);replace HV:=hid (HV.out.step (by rw[z6.out];exact zk.mono z3));have zu:E≤W6.heap.size:=jlt z3 zk.size;clear q1 q2 zz ch zk z3;have ch:=HV.out.h k za;have fh:=HV.out.f k za;go_wp2_with fail;go_roundw
     case rel=>
      refine⟨k+1,by omega,by go_num,z1.out.set zO k _,HV.out.set k za _ ?_ M3.out,by simpa[World.setCell]using zu⟩;rw[M1.out]
     case measure=>simp[intOf];omega
    ·have hd:decide ((k:Int)<8)=false:=by simp;omega
     obtain rfl:k=8:=by omega
     have z5:=HV.out;rw[mixT_eight]at z5;have z8:add64 st ⟨xa,xb,xc,xd,xe,xf,xg,xh⟩=qc0 (fun t=>kf t) (qbI hf) L (i+1):=by
      rw[qc0,zx.out,qdK,← HA.out,zy.out,HR.out]
     rw[z8]at z5;have HF:=hid z5;clear z5 z8 z1 HV;go_wp2_with fail;go_roundw
     case rel=>exact⟨i+1,a+128,by omega,hid (by have:=HA.out;omega),by go_num,HF.out⟩
     case measure=>simp[intOf];have:=HA.out;omega
  ·have hd:decide ((a:Int)<128*(nb:Int))=false:=by have:=HA.out;simp;omega
   obtain rfl:i=nb:=by omega
   generalize zf:qc0 (fun t=>kf t) (qbI hf) L i=st at *;have zx:=hid zf;clear zf;have z4:E≤wr.heap.size:=by rw[← z6.out];exact HV.out.but.size
   go_wp2_with fail;refine loop6_64 z6 (by kernel_rfl) HV.out z4 ?_;clear HV z4;intro wr Ob zM u20 u249 u250 u251 u252 u253 u254 u255 u256 u257 u258 u259 u260 u261 u262 u263 u264 u265 u266 u267 u268 zH hv;have zP:=qbf wr Ob zM (qcq st) zH;rw[qcg]at zP;have zo:Below B w wr:=zN.trans ((hv.but.below (jll hv.lB) (by have:=hv.lB;have:=hv.lH;omega)));clear zH;go_wp2_with fail;go_ret;exact⟨by rw[HE.out];rfl,by rw[zK.out];exact zo⟩
end
end Go.Proofs.YteomfleofeeofaaGreatDoor
