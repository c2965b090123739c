/- The loop of the schedule of the reference's Sum512. -/
import Derived.Test.YteomfleofeeofaaGreatDoorShaRa
namespace Go.Proofs.YteomfleofeeofaaGreatDoor
open Go.Lib (hid)
set_option maxRecDepth 100000
set_option linter.unusedSimpArgs false
set_option linter.unusedVariables false
section
open Go.RowKit Go.Sort
set_option maxHeartbeats 3000000 in
set_option maxRecDepth 1000000 in
theorem loop2_64 {Q:Exit→Act→World→Prop} {W3 W:World} {B E Hb Sb a nb capS:Nat} {st:W8} {ws:List Int} {L:List UInt8} (HEq:Hid (W3.heap.size=E)) {c0 c1 c2 c3 c4 c9 c10 c11 c12 c13 c14 c15 c16 c17 c18 c19 c20 c21 c22 c23 c24 c25 c26 c27 c28 c29 c30 c31 c32 c33 c34 c35 c36 c37 c38 c39 c40 c41 c42 c43 c44 c45 c46 c47 c48 c49 c50 c51 c52 c53 c54 c55 c56 c57 c58 c59 c60 c61 c62 c63 c64 c65 c66 c67 c68 c69 c70 c71 c72 c73 c74 c75 c76 c77 c78 c79 c80 c81 c82 c83 c84 c85 c86 c87 c88 c89 c90 c91 c92 c93 c94 c95 c96 c97 c98 c99 c100 c101 c102 c103 c104 c105 c106 c107 c108 c109 c110 c111 c112 c113 c114 c115 c116 c117 c118 c119 c120 c121 c122 c123 c124 c125 c126 c127 c128 c129 c130 c131 c132 c133 c134 c135 c136 c137 c138 c139 c140 c141 c142 c143 c144 c145 c146 c147 c148 c149 c150 c151 c152 c153 c154 c155 c156 c157 c158 c159 c160 c161 c162 c163 c164 c165 c166 c167 c168 c169 c170 c171 c172 c173 c174 c175 c176 c177 c178 c179 c180 c181 c182 c183 c184 c185 c186 c187 c188 c189 c190 c191 c192 c193 c194 c195 c196 c197 c198 c199 c200 c201 c202 c203 c204 c205 c206 c207 c208 c209 c210 c211 c212 c213 c214 c215 c216 c217 c218 c219 c220 c221 c222 c223 c224 c225 c226 c227 c228 c229 c230 c231 c232 c233 c234 c235 c236 c237 c238 c239 c240 c241 c242 c243 c244 c245 c246 c247 c248 c249 c250 c251 c252 c253 c254 c255 c256 c257 c258 c259 c260 c261 c262 c263 c264 c265 c266 c267 c268 c269 c270:Value} {c:Code} (hc:c=Code.loop (bodyT 1))
  (HLl:Hid (L.length=128*nb)) (ha128:a+128≤128*nb) (hnbb:128*nb≤2097152) (HWW:Hid (qaT (qa0 ((L.drop a).take 128)) 64=ws)) (hv0:RInv64 W3 W B Hb Sb st L) (hsz0:E≤W.heap.size) (hP:∀ ch (a:Act) (d:Tmp) v w,Q (Exit.panic ch) (a.put (some d) v) w→Q (Exit.panic ch) a w)
  (hQ:∀ (wr:World) (Wb cp:Nat) (u9 u10 u11 u12 u31 u32 u33 u34 u35 u36 u37 u38 u39 u40 u41 u42 u43 u44 u45 u46 u47 u48 u49 u50 u51 u52 u53 u54 u55 u56 u57 u58 u59 u60 u61 u62 u63 u64 u65 u66 u67 u68 u69 u70 u71 u72 u73 u74 u75 u76 u77 u78 u79 u80 u81 u82 u83 u84 u85 u86 u87 u88 u89 u90 u91 u92 u93 u94 u95 u96 u97 u98 u99 u100 u101 u102 u103 u104 u105 u106 u107 u108 u109 u110 u111 u112 u113 u114 u115:Value),(∀ j,j<80→wr.cell? ⟨Wb,j,none⟩=some (.int .u64 (ws.getD j 0)))→E≤Wb→RInv64 W3 wr B Hb Sb st L→E≤wr.heap.size→Q (Exit.exit 2) ⟨List.toArray (c0 :: c1 :: c2 :: c3 :: c4 :: (.slice (some ⟨Sb,0,none⟩) (128*nb) capS) :: (.int .i64 (a:Int)) :: (.slice (some ⟨Wb,0,none⟩) 80 cp) :: (.int .i64 80) :: u9 :: u10 :: u11 :: u12 :: c13 :: c14 :: c15 :: c16 :: c17 :: c18 :: c19 :: c20 :: c21 :: c22 :: c23 :: c24 :: c25 :: c26 :: c27 :: c28 :: c29 :: c30 :: u31 :: u32 :: u33 :: u34 :: u35 :: u36 :: u37 :: u38 :: u39 :: u40 :: u41 :: u42 :: u43 :: u44 :: u45 :: u46 :: u47 :: u48 :: u49 :: u50 :: u51 :: u52 :: u53 :: u54 :: u55 :: u56 :: u57 :: u58 :: u59 :: u60 :: u61 :: u62 :: u63 :: u64 :: u65 :: u66 :: u67 :: u68 :: u69 :: u70 :: u71 :: u72 :: u73 :: u74 :: u75 :: u76 :: u77 :: u78 :: u79 :: u80 :: u81 :: u82 :: u83 :: u84 :: u85 :: u86 :: u87 :: u88 :: u89 :: u90 :: u91 :: u92 :: u93 :: u94 :: u95 :: u96 :: u97 :: u98 :: u99 :: u100 :: u101 :: u102 :: u103 :: u104 :: u105 :: u106 :: u107 :: u108 :: u109 :: u110 :: u111 :: u112 :: u113 :: u114 :: u115 :: c116 :: c117 :: c118 :: c119 :: c120 :: c121 :: c122 :: c123 :: c124 :: c125 :: c126 :: c127 :: c128 :: c129 :: c130 :: c131 :: c132 :: c133 :: c134 :: c135 :: c136 :: c137 :: c138 :: c139 :: c140 :: c141 :: c142 :: c143 :: c144 :: c145 :: c146 :: c147 :: c148 :: c149 :: c150 :: c151 :: c152 :: c153 :: c154 :: c155 :: c156 :: c157 :: c158 :: c159 :: c160 :: c161 :: c162 :: c163 :: c164 :: c165 :: c166 :: c167 :: c168 :: c169 :: c170 :: c171 :: c172 :: c173 :: c174 :: c175 :: c176 :: c177 :: c178 :: c179 :: c180 :: c181 :: c182 :: c183 :: c184 :: c185 :: c186 :: c187 :: c188 :: c189 :: c190 :: c191 :: c192 :: c193 :: c194 :: c195 :: c196 :: c197 :: c198 :: c199 :: c200 :: c201 :: c202 :: c203 :: c204 :: c205 :: c206 :: c207 :: c208 :: c209 :: c210 :: c211 :: c212 :: c213 :: c214 :: c215 :: c216 :: c217 :: c218 :: c219 :: c220 :: c221 :: c222 :: c223 :: c224 :: c225 :: c226 :: c227 :: c228 :: c229 :: c230 :: c231 :: c232 :: c233 :: c234 :: c235 :: c236 :: c237 :: c238 :: c239 :: c240 :: c241 :: c242 :: c243 :: c244 :: c245 :: c246 :: c247 :: c248 :: c249 :: c250 :: c251 :: c252 :: c253 :: c254 :: c255 :: c256 :: c257 :: c258 :: c259 :: c260 :: c261 :: c262 :: c263 :: c264 :: c265 :: c266 :: c267 :: c268 :: c269 :: c270 :: []),[]⟩ wr) :
  Code.wp Tryz.prog c Q ⟨List.toArray (c0 :: c1 :: c2 :: c3 :: c4 :: (.slice (some ⟨Sb,0,none⟩) (128*nb) capS) :: (.int .i64 (a:Int)) :: (.slice none 0 0) :: (.int .i64 0) :: c9 :: c10 :: c11 :: c12 :: c13 :: c14 :: c15 :: c16 :: c17 :: c18 :: c19 :: c20 :: c21 :: c22 :: c23 :: c24 :: c25 :: c26 :: c27 :: c28 :: c29 :: c30 :: c31 :: c32 :: c33 :: c34 :: c35 :: c36 :: c37 :: c38 :: c39 :: c40 :: c41 :: c42 :: c43 :: c44 :: c45 :: c46 :: c47 :: c48 :: c49 :: c50 :: c51 :: c52 :: c53 :: c54 :: c55 :: c56 :: c57 :: c58 :: c59 :: c60 :: c61 :: c62 :: c63 :: c64 :: c65 :: c66 :: c67 :: c68 :: c69 :: c70 :: c71 :: c72 :: c73 :: c74 :: c75 :: c76 :: c77 :: c78 :: c79 :: c80 :: c81 :: c82 :: c83 :: c84 :: c85 :: c86 :: c87 :: c88 :: c89 :: c90 :: c91 :: c92 :: c93 :: c94 :: c95 :: c96 :: c97 :: c98 :: c99 :: c100 :: c101 :: c102 :: c103 :: c104 :: c105 :: c106 :: c107 :: c108 :: c109 :: c110 :: c111 :: c112 :: c113 :: c114 :: c115 :: c116 :: c117 :: c118 :: c119 :: c120 :: c121 :: c122 :: c123 :: c124 :: c125 :: c126 :: c127 :: c128 :: c129 :: c130 :: c131 :: c132 :: c133 :: c134 :: c135 :: c136 :: c137 :: c138 :: c139 :: c140 :: c141 :: c142 :: c143 :: c144 :: c145 :: c146 :: c147 :: c148 :: c149 :: c150 :: c151 :: c152 :: c153 :: c154 :: c155 :: c156 :: c157 :: c158 :: c159 :: c160 :: c161 :: c162 :: c163 :: c164 :: c165 :: c166 :: c167 :: c168 :: c169 :: c170 :: c171 :: c172 :: c173 :: c174 :: c175 :: c176 :: c177 :: c178 :: c179 :: c180 :: c181 :: c182 :: c183 :: c184 :: c185 :: c186 :: c187 :: c188 :: c189 :: c190 :: c191 :: c192 :: c193 :: c194 :: c195 :: c196 :: c197 :: c198 :: c199 :: c200 :: c201 :: c202 :: c203 :: c204 :: c205 :: c206 :: c207 :: c208 :: c209 :: c210 :: c211 :: c212 :: c213 :: c214 :: c215 :: c216 :: c217 :: c218 :: c219 :: c220 :: c221 :: c222 :: c223 :: c224 :: c225 :: c226 :: c227 :: c228 :: c229 :: c230 :: c231 :: c232 :: c233 :: c234 :: c235 :: c236 :: c237 :: c238 :: c239 :: c240 :: c241 :: c242 :: c243 :: c244 :: c245 :: c246 :: c247 :: c248 :: c249 :: c250 :: c251 :: c252 :: c253 :: c254 :: c255 :: c256 :: c257 :: c258 :: c259 :: c260 :: c261 :: c262 :: c263 :: c264 :: c265 :: c266 :: c267 :: c268 :: c269 :: c270 :: []),[]⟩ W:=by
 subst hc;obtain ⟨i0,hi,hz0,hz1,hz2⟩:=info_parts info_u64
 have HWL:=hid (show ws.length=80 from by rw [← HWW.out,qcB _ (qbY _)])
 conv=>arg 2;arg 1;whnf
 go_loopw [7,8] (fun v t wr=>∃ (k:Nat) (ao:Option Addr) (cp:Nat),k≤80∧t=.int .i64 k∧v=.slice ao k cp∧Own wr E (.slice ao k cp) (qbT (ws.take k))∧RInv64 W3 wr B Hb Sb st L∧E≤wr.heap.size) (fun _ t _=>80-(intOf t).toNat)
 case atStart=>exact ⟨0,none,0,by omega,rfl,rfl,Own.nil _ _,hv0,hsz0⟩
 case round=>
  clear hv0 hsz0;obtain ⟨k,ao,cp,hk,rfl,rfl,hown,hv,hsz⟩:=hrel;have HV:=hid hv;have HO:=hid hown;clear hv hown
  have HL:=hid (show (qbT (ws.take k)).length=k from by rw [qfA,List.length_take,HWL.out];omega)
  by_cases hk64:k<80
  ·have hd:decide ((k:Int)<80)=true:=by simp;omega
   by_cases hk16:k<16
   ·have hd16:decide ((k:Int)<16)=true:=by simp;omega
    have HE8:=hid (fun n hn=>eight_at L a k n hk16 hn (by rw [HLl.out];exact ha128))
    have HW8:=hid (eight_word L a k hk16 (by rw [HLl.out];exact ha128))
    have HN8:=hid (fun n (hn:n≤8)=>ldn_lt (qeb L a k) n (by rw [qfg L a k hk16 (by rw [HLl.out];exact ha128)];exact hn))
    generalize qeb L a k=bl at *
    go_wp2_with fail
    go_loopw [9,10] (fun x i wr2=>∃ n:Nat,n≤8∧i=.int .i64 n∧x=.int .u64 ((ldn (bl.take n):Nat):Int)∧wr2=wr) (fun _ i _=>8-(intOf i).toNat)
    case atStart=>exact ⟨0,by omega,rfl,by first | rfl | trivial,by first | rfl | trivial⟩
    case round=>
     obtain ⟨n,hn,rfl,rfl,rfl⟩:=hrel
     by_cases hn8:n<8
     ·have hdn:decide ((n:Int)<8)=true:=by simp;omega
      obtain ⟨x,hx,hsn⟩:=HE8.out n hn8;have cx:=HV.out.s _ _ hx;have hvn:=HN8.out n hn
      have h7:256^n≤256^7:=Nat.pow_le_pow_right (by omega) (by omega)
      have hx8:=UInt8.toNat_lt x
      have HSn:=hid (show ldn (bl.take (n+1))=ldn (bl.take n)*256+x.toNat from by rw [hsn,ldn_snoc])
      have hv7:ldn (bl.take n)<72057594037927936:=by omega
      clear hx hsn hvn h7;generalize ldn (bl.take n)=v at *
      have hp0:(0:Int)≤(a:Int)+8*(k:Int)+(n:Int):=by omega
      have hp1:(a:Int)+8*(k:Int)+(n:Int)<128*(nb:Int):=by omega
      go_wp2_with fail
      go_roundw
      case rel=>
       refine ⟨n+1,by omega,by go_num,?_,by first | rfl | trivial⟩
       rw [HSn.out]
       refine congrArg (Value.int .u64) ?_
       simp [IntKind.wrap]
       omega
      case measure=>simp [intOf];omega
     ·have hdn:decide ((n:Int)<8)=false:=by simp;omega
      obtain rfl:n=8:=by omega
      have HN5:=hid (show (ws.take k)++[((ldn (bl.take 8):Nat):Int)]=ws.take (k+1) from by
       rw [← HWW.out,sch64_take _ (qbY _) 64 k hk16,HW8.out])
      generalize ((ldn (bl.take 8):Nat):Int)=x at *;clear HE8 HW8 HN8
      go_wp2_with (at_builtin;refine qaI rfl (.tmp 54) (.tmp 56) 97 rfl E 57 i0 (.int .u64 0) 8 Tryz.underlying97 hi hz0 hz1 hz2 rfl ao k cp _ rfl (HO.out.alloc _) HL.out ⟨_,0,none⟩ 1 1 [.int .u64 x] rfl rfl (cell_one_new _ _ _) ?b2 ?b3 ?b4 ?b5 ?_)
      case b2=>intro u hu;simp at hu;subst hu;rfl
      case b3=>omega
      case b4=>omega
      case b5=>simp;omega
      intro ao5 cp5 W5 hown5 hgrow5
      have hb5:Below E _ W5:=qa9 ((Below.refl E _).alloc hsz _) (by simp;omega) (HO.out.alloc _) hgrow5
      have hsz5:E≤W5.heap.size:=by have:=hgrow5.size;simp at this;omega
      rw [wcells64_snoc,HN5.out] at hown5
      have hv5:=hid (HV.out.step (by rw [HEq.out];exact hb5))
      clear hgrow5 HO hb5
      go_wp2_with fail
      go_roundw
      case rel=>exact ⟨k+1,ao5,cp5,by omega,by go_num,rfl,hown5,hv5.out,hsz5⟩
      case measure=>simp [intOf];omega
   ·have hd16:decide ((k:Int)<16)=false:=by simp;omega
    obtain ⟨Wb,cpW,hvv,hoW,hWlt⟩:=HO.out.some (by rw [HL.out];omega)
    rw [HL.out] at hvv
    cases hvv
    have hcW:∀ j,j<k→wr.cell? ⟨Wb,j,none⟩=some (.int .u64 ((ws.take k).getD j 0)):=fun j hj=>hoW.cells j _ (by
     have hjl:j<(ws.take k).length:=by rw [List.length_take,HWL.out];omega
     simp only [qbT,List.getElem?_map,List.getElem?_eq_getElem hjl,Option.map_some,List.getD_eq_getElem?_getD,Option.getD_some])
    have he:ext64 (ws.take k) k=IntKind.u64.wrap (IntKind.u64.wrap (IntKind.u64.wrap ((ws.take k).getD (k-16) 0+(ws.take k).getD (k-7) 0)+qdP ((ws.take k).getD (k-15) 0) 1 8 7)+qdP ((ws.take k).getD (k-2) 0) 19 61 6):=rfl
    have w16:=hcW (k-16) (by omega);have w7:=hcW (k-7) (by omega);have w15:=hcW (k-15) (by omega);have w2:=hcW (k-2) (by omega)
    generalize (ws.take k).getD (k-16) 0=x16 at *;generalize (ws.take k).getD (k-7) 0=x7 at *;generalize (ws.take k).getD (k-15) 0=x15 at *;generalize (ws.take k).getD (k-2) 0=x2 at *;have HXE:=hid he
    have HNx:=hid (show (ws.take k)++[ext64 (ws.take k) k]=ws.take (k+1) from by
     rw [← HWW.out,sch64_take2 _ (qbY _) 64 k (by omega) (by omega)])
    clear he hcW hoW
    have e15:(0:Int)≤(k:Int)-15:=by omega
    have f15:(k:Int)-15<(k:Int):=by omega
    go_wp2_with fail
    have k15:=cell_regrown w15
    refine qaE (by kernel_rfl) (by kernel_rfl) ?_
    repeat (first | go_big_quiet_step ((go_at_call 121;exact Calls.regrown_of (qcy _ _ _ (by omega) (by omega)))) | quiet_step ((go_at_call 121;exact Calls.regrown_of (qcy _ _ _ (by omega) (by omega)))))
    refine wpQuiet_nil ?_
    intro W4 hb4;replace w16:=(hb4.cell (block_lt_of_cell w16)).trans w16;replace w7:=(hb4.cell (block_lt_of_cell w7)).trans w7;replace w2:=(hb4.cell (block_lt_of_cell w2)).trans w2;have HO4:=hid (HO.out.below hb4);have hbE4:Below E wr W4:=hb4.mono hsz;have hsz4:E≤W4.heap.size:=Nat.le_trans hsz hb4.size;clear k15 w15 hb4 e15 f15
    go_wp2_with fail
    have k2:=cell_regrown w2
    refine qaE (by kernel_rfl) (by kernel_rfl) ?_
    repeat (first | go_big_quiet_step ((go_at_call 121;exact Calls.regrown_of (qcy _ _ _ (by omega) (by omega)))) | quiet_step ((go_at_call 121;exact Calls.regrown_of (qcy _ _ _ (by omega) (by omega)))))
    refine wpQuiet_nil ?_
    intro W5 hb5;replace w16:=(hb5.cell (block_lt_of_cell w16)).trans w16;replace w7:=(hb5.cell (block_lt_of_cell w7)).trans w7;replace HO4:=hid (HO4.out.below hb5);have hbE5:Below E wr W5:=hbE4.trans (hb5.mono hsz4);have hsz5:E≤W5.heap.size:=Nat.le_trans hsz4 hb5.size;clear k2 w2 hb5 hbE4 hsz4
    go_wp2_with fail
    have k16:=cell_regrown w16;have k7:=cell_regrown w7
    refine qbW 16 _ rfl rfl rfl (by kernel_rfl) (by kernel_rfl) (fun _ _ _ _ h=>hP _ _ _ _ _ h) ?_
    simp only [Nat.reduceSub,List.take_succ_cons,List.take_zero,List.drop_succ_cons,List.drop_zero]
    dsimp only [Act.put,Act.eval]
    repeat (first | go_big_quiet_step (fail) | quiet_step (fail))
    refine wpQuiet_nil ?_
    intro W6 hb6;replace HO4:=hid (HO4.out.below hb6);have hbE6:Below E wr W6:=hbE5.trans (hb6.mono hsz5);have hsz6:E≤W6.heap.size:=Nat.le_trans hsz5 hb6.size;clear k16 k7 w16 w7 hb6 hbE5 hsz5
    go_wp2_with (at_builtin;refine qaI rfl (.tmp 98) (.tmp 114) 97 rfl E 57 i0 (.int .u64 0) 8 Tryz.underlying97 hi hz0 hz1 hz2 rfl (some ⟨Wb,0,none⟩) k cp _ rfl (HO4.out.alloc _) HL.out ⟨W6.heap.size,0,none⟩ 1 1 [.int .u64 _] rfl rfl (cell_one_new _ _ _) ?e2 ?e3 ?e4 ?e5 ?_)
    case e2=>intro u hu;simp at hu;subst hu;rfl
    case e3=>omega
    case e4=>omega
    case e5=>simp;omega
    intro ao7 cp7 W7 hown7 hgrow7
    have hb7:Below E wr W7:=qa9 (hbE6.alloc (by omega) _) (by simp;omega) (HO4.out.alloc _) hgrow7
    have hsz7:E≤W7.heap.size:=by have:=hgrow7.size;simp at this;omega
    have hown8:Own W7 E (.slice ao7 (k+1) cp7) (qbT (ws.take (k+1))):=by
     rw [← HNx.out,← wcells64_snoc,HXE.out];exact hown7
    have hv7:=hid (HV.out.step (by rw [HEq.out];exact hb7))
    clear hown7 hgrow7 HO HO4 hbE6 hsz6 hb7
    go_wp2_with fail
    go_roundw
    case rel=>exact ⟨k+1,ao7,cp7,by omega,by go_num,rfl,hown8,hv7.out,hsz7⟩
    case measure=>simp [intOf];omega
  ·have hd:decide ((k:Int)<80)=false:=by simp;omega
   obtain rfl:k=80:=by omega
   obtain ⟨Wb,cpW,hvv,hoW,hWlt⟩:=HO.out.some (by rw [HL.out];omega)
   rw [HL.out] at hvv
   cases hvv
   have hcW:∀ j,j<80→wr.cell? ⟨Wb,j,none⟩=some (.int .u64 (ws.getD j 0)):=fun j hj=>hoW.cells j _ (by
    have hjl:j<ws.length:=by rw [HWL.out];omega
    rw [List.take_of_length_le (by rw [HWL.out];omega)]
    simp only [qbT,List.getElem?_map,List.getElem?_eq_getElem hjl,Option.map_some,List.getD_eq_getElem?_getD,Option.getD_some])
   have lWE:=hoW.base;have HcW:=hid hcW;clear hoW hcW HO HL
   go_wp2_with fail
   exact hQ _ _ _ _ _ _ _ _ _ _ _ _ _ _ _ _ _ _ _ _ _ _ _ _ _ _ _ _ _ _ _ _ _ _ _ _ _ _ _ _ _ _ _ _ _ _ _ _ _ _ _ _ _ _ _ _ _ _ _ _ _ _ _ _ _ _ _ _ _ _ _ _ _ _ _ _ _ _ _ _ _ _ _ _ _ _ _ _ _ _ _ _ HcW.out lWE HV.out hsz
end
end Go.Proofs.YteomfleofeeofaaGreatDoor
