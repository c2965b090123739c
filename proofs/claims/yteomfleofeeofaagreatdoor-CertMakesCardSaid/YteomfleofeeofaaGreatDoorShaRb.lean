/- The loop of rounds of the reference's Sum512. -/
import Derived.Test.YteomfleofeeofaaGreatDoorShaRa
namespace Go.Proofs.YteomfleofeeofaaGreatDoor
open Go.Lib (hid)
set_option maxRecDepth 100000
set_option linter.unusedSimpArgs false
set_option linter.unusedVariables false
section
open Go.RowKit Go.Sort
set_option maxHeartbeats 1500000 in
set_option maxRecDepth 1000000 in
theorem loop4_64 {Q:Exit→Act→World→Prop} {W3 W:World} {B E Hb Sb Wb V0 cpw cv0:Nat} {st:W8} {ws:List Int} {L:List UInt8} (HEq:Hid (W3.heap.size=E)) {c0 c1 c2 c4 c5 c6 c8 c9 c10 c11 c12 c15 c16 c17 c18 c19 c20 c21 c22 c23 c24 c25 c26 c27 c28 c29 c30 c31 c32 c33 c34 c35 c36 c37 c38 c39 c40 c41 c42 c43 c44 c45 c46 c47 c48 c49 c50 c51 c52 c53 c54 c55 c56 c57 c58 c59 c60 c61 c62 c63 c64 c65 c66 c67 c68 c69 c70 c71 c72 c73 c74 c75 c76 c77 c78 c79 c80 c81 c82 c83 c84 c85 c86 c87 c88 c89 c90 c91 c92 c93 c94 c95 c96 c97 c98 c99 c100 c101 c102 c103 c104 c105 c106 c107 c108 c109 c110 c111 c112 c113 c114 c115 c116 c117 c118 c119 c120 c121 c122 c123 c124 c125 c126 c127 c128 c129 c130 c131 c132 c133 c134 c135 c136 c137 c138 c139 c140 c141 c142 c143 c144 c145 c146 c147 c148 c149 c150 c151 c152 c153 c154 c155 c156 c157 c158 c159 c160 c161 c162 c163 c164 c165 c166 c167 c168 c169 c170 c171 c172 c173 c174 c175 c176 c177 c178 c179 c180 c181 c182 c183 c184 c185 c186 c187 c188 c189 c190 c191 c192 c193 c194 c195 c196 c197 c198 c199 c200 c201 c202 c203 c204 c205 c206 c207 c208 c209 c210 c211 c212 c213 c214 c215 c216 c217 c218 c219 c220 c221 c222 c223 c224 c225 c226 c227 c228 c229 c230 c231 c232 c233 c234 c235 c236 c237 c238 c239 c240 c241 c242 c243 c244 c245 c246 c247 c248 c249 c250 c251 c252 c253 c254 c255 c256 c257 c258 c259 c260 c261 c262 c263 c264 c265 c266 c267 c268 c269 c270:Value} {c:Code} (hc:c=Code.loop (bodyT 3))
  (hvi0:VInv64 W E V0 Wb st ws) (hv0:RInv64 W3 W B Hb Sb st L) (hsz0:E≤W.heap.size)
  (hQ:∀ (wr:World) (V cv:Nat) (r:W8) (u15 u16 u119 u120 u121 u122 u123 u124 u125 u126 u127 u128 u129 u130 u131 u132 u133 u134 u135 u136 u137 u138 u139 u140 u141 u142 u143 u144 u145 u146 u147 u148 u149 u150 u151 u152 u153 u154 u155 u156 u157 u158 u159 u160 u161 u162 u163 u164 u165 u166 u167 u168 u169 u170 u171 u172 u173 u174 u175 u176 u177 u178 u179 u180 u181 u182 u183 u184 u185 u186 u187 u188 u189 u190 u191 u192 u193 u194 u195 u196 u197 u198 u199 u200 u201 u202 u203 u204 u205 u206 u207 u208 u209 u210 u211 u212 u213 u214 u215 u216 u217 u218 u219 u220 u221 u222 u223 u224 u225 u226 u227 u228 u229 u230 u231 u232:Value),Hid (qdE (fun t=>kf t) (fun t=>ws.getD t 0) st 80=r)→VInv64 wr E V Wb r ws→RInv64 W3 wr B Hb Sb st L→E≤wr.heap.size→Q (Exit.exit 6) ⟨List.toArray (c0 :: c1 :: c2 :: (.slice (some ⟨B,0,none⟩) 80 80) :: c4 :: c5 :: c6 :: (.slice (some ⟨Wb,0,none⟩) 80 cpw) :: c8 :: c9 :: c10 :: c11 :: c12 :: (.slice (some ⟨V,0,none⟩) 8 cv) :: (.int .i64 80) :: u15 :: u16 :: c17 :: c18 :: c19 :: c20 :: c21 :: c22 :: c23 :: c24 :: c25 :: c26 :: c27 :: c28 :: c29 :: c30 :: c31 :: c32 :: c33 :: c34 :: c35 :: c36 :: c37 :: c38 :: c39 :: c40 :: c41 :: c42 :: c43 :: c44 :: c45 :: c46 :: c47 :: c48 :: c49 :: c50 :: c51 :: c52 :: c53 :: c54 :: c55 :: c56 :: c57 :: c58 :: c59 :: c60 :: c61 :: c62 :: c63 :: c64 :: c65 :: c66 :: c67 :: c68 :: c69 :: c70 :: c71 :: c72 :: c73 :: c74 :: c75 :: c76 :: c77 :: c78 :: c79 :: c80 :: c81 :: c82 :: c83 :: c84 :: c85 :: c86 :: c87 :: c88 :: c89 :: c90 :: c91 :: c92 :: c93 :: c94 :: c95 :: c96 :: c97 :: c98 :: c99 :: c100 :: c101 :: c102 :: c103 :: c104 :: c105 :: c106 :: c107 :: c108 :: c109 :: c110 :: c111 :: c112 :: c113 :: c114 :: c115 :: c116 :: c117 :: c118 :: u119 :: u120 :: u121 :: u122 :: u123 :: u124 :: u125 :: u126 :: u127 :: u128 :: u129 :: u130 :: u131 :: u132 :: u133 :: u134 :: u135 :: u136 :: u137 :: u138 :: u139 :: u140 :: u141 :: u142 :: u143 :: u144 :: u145 :: u146 :: u147 :: u148 :: u149 :: u150 :: u151 :: u152 :: u153 :: u154 :: u155 :: u156 :: u157 :: u158 :: u159 :: u160 :: u161 :: u162 :: u163 :: u164 :: u165 :: u166 :: u167 :: u168 :: u169 :: u170 :: u171 :: u172 :: u173 :: u174 :: u175 :: u176 :: u177 :: u178 :: u179 :: u180 :: u181 :: u182 :: u183 :: u184 :: u185 :: u186 :: u187 :: u188 :: u189 :: u190 :: u191 :: u192 :: u193 :: u194 :: u195 :: u196 :: u197 :: u198 :: u199 :: u200 :: u201 :: u202 :: u203 :: u204 :: u205 :: u206 :: u207 :: u208 :: u209 :: u210 :: u211 :: u212 :: u213 :: u214 :: u215 :: u216 :: u217 :: u218 :: u219 :: u220 :: u221 :: u222 :: u223 :: u224 :: u225 :: u226 :: u227 :: u228 :: u229 :: u230 :: u231 :: u232 :: c233 :: c234 :: c235 :: c236 :: c237 :: c238 :: c239 :: c240 :: c241 :: c242 :: c243 :: c244 :: c245 :: c246 :: c247 :: c248 :: c249 :: c250 :: c251 :: c252 :: c253 :: c254 :: c255 :: c256 :: c257 :: c258 :: c259 :: c260 :: c261 :: c262 :: c263 :: c264 :: c265 :: c266 :: c267 :: c268 :: c269 :: c270 :: []),[]⟩ wr) :
  Code.wp Tryz.prog c Q ⟨List.toArray (c0 :: c1 :: c2 :: (.slice (some ⟨B,0,none⟩) 80 80) :: c4 :: c5 :: c6 :: (.slice (some ⟨Wb,0,none⟩) 80 cpw) :: c8 :: c9 :: c10 :: c11 :: c12 :: (.slice (some ⟨V0,0,none⟩) 8 cv0) :: (.int .i64 0) :: c15 :: c16 :: c17 :: c18 :: c19 :: c20 :: c21 :: c22 :: c23 :: c24 :: c25 :: c26 :: c27 :: c28 :: c29 :: c30 :: c31 :: c32 :: c33 :: c34 :: c35 :: c36 :: c37 :: c38 :: c39 :: c40 :: c41 :: c42 :: c43 :: c44 :: c45 :: c46 :: c47 :: c48 :: c49 :: c50 :: c51 :: c52 :: c53 :: c54 :: c55 :: c56 :: c57 :: c58 :: c59 :: c60 :: c61 :: c62 :: c63 :: c64 :: c65 :: c66 :: c67 :: c68 :: c69 :: c70 :: c71 :: c72 :: c73 :: c74 :: c75 :: c76 :: c77 :: c78 :: c79 :: c80 :: c81 :: c82 :: c83 :: c84 :: c85 :: c86 :: c87 :: c88 :: c89 :: c90 :: c91 :: c92 :: c93 :: c94 :: c95 :: c96 :: c97 :: c98 :: c99 :: c100 :: c101 :: c102 :: c103 :: c104 :: c105 :: c106 :: c107 :: c108 :: c109 :: c110 :: c111 :: c112 :: c113 :: c114 :: c115 :: c116 :: c117 :: c118 :: c119 :: c120 :: c121 :: c122 :: c123 :: c124 :: c125 :: c126 :: c127 :: c128 :: c129 :: c130 :: c131 :: c132 :: c133 :: c134 :: c135 :: c136 :: c137 :: c138 :: c139 :: c140 :: c141 :: c142 :: c143 :: c144 :: c145 :: c146 :: c147 :: c148 :: c149 :: c150 :: c151 :: c152 :: c153 :: c154 :: c155 :: c156 :: c157 :: c158 :: c159 :: c160 :: c161 :: c162 :: c163 :: c164 :: c165 :: c166 :: c167 :: c168 :: c169 :: c170 :: c171 :: c172 :: c173 :: c174 :: c175 :: c176 :: c177 :: c178 :: c179 :: c180 :: c181 :: c182 :: c183 :: c184 :: c185 :: c186 :: c187 :: c188 :: c189 :: c190 :: c191 :: c192 :: c193 :: c194 :: c195 :: c196 :: c197 :: c198 :: c199 :: c200 :: c201 :: c202 :: c203 :: c204 :: c205 :: c206 :: c207 :: c208 :: c209 :: c210 :: c211 :: c212 :: c213 :: c214 :: c215 :: c216 :: c217 :: c218 :: c219 :: c220 :: c221 :: c222 :: c223 :: c224 :: c225 :: c226 :: c227 :: c228 :: c229 :: c230 :: c231 :: c232 :: c233 :: c234 :: c235 :: c236 :: c237 :: c238 :: c239 :: c240 :: c241 :: c242 :: c243 :: c244 :: c245 :: c246 :: c247 :: c248 :: c249 :: c250 :: c251 :: c252 :: c253 :: c254 :: c255 :: c256 :: c257 :: c258 :: c259 :: c260 :: c261 :: c262 :: c263 :: c264 :: c265 :: c266 :: c267 :: c268 :: c269 :: c270 :: []),[]⟩ W:=by
 subst hc
 conv=>arg 2;arg 1;whnf
 go_loopw [13,14] (fun v t wr=>∃ (k V cv:Nat) (r:W8),k≤80∧t=.int .i64 k∧v=.slice (some ⟨V,0,none⟩) 8 cv∧Hid (qdE (fun t=>kf t) (fun t=>ws.getD t 0) st k=r)∧VInv64 wr E V Wb r ws∧RInv64 W3 wr B Hb Sb st L∧E≤wr.heap.size) (fun _ t _=>80-(intOf t).toNat)
 case atStart=>exact ⟨0,V0,cv0,st,by omega,rfl,rfl,hid rfl,hvi0,hv0,hsz0⟩
 case round=>
  clear hvi0 hv0 hsz0;obtain ⟨k,V,cv,⟨xa,xb,xc,xd,xe,xf,xg,xh⟩,hk,rfl,rfl,HR,hvi,hv,hsz⟩:=hrel;have HVI:=hid hvi;have HV:=hid hv;clear hvi hv
  by_cases hk64:k<80
  ·have hd:decide ((k:Int)<80)=true:=by simp;omega
   have HSt:=hid (show qdE (fun t=>kf t) (fun t=>ws.getD t 0) st (k+1)=rnd64 ⟨xa,xb,xc,xd,xe,xf,xg,xh⟩ (kf k) (ws.getD k 0) from by rw [qdE,HR.out])
   have ck:=HV.out.k k (by omega)
   have cw:=HVI.out.w k hk64
   have c4:=HVI.out.v 4 (by omega);have c5:=HVI.out.v 5 (by omega);have c6:=HVI.out.v 6 (by omega);have c7:=HVI.out.v 7 (by omega)
   simp only [W8.at] at c4 c5 c6 c7
   generalize kf k=xk at *;generalize ws.getD k 0=xw at *
   go_wp2_with fail
   have q4:=cell_regrown c4;have q5:=cell_regrown c5;have q6:=cell_regrown c6;have q7:=cell_regrown c7;have qk:=cell_regrown ck;have qw:=cell_regrown cw
   refine qaE (by kernel_rfl) (by kernel_rfl) ?_
   repeat (first | go_big_quiet_step ((go_at_call 121;exact Calls.regrown_of (qcy _ _ _ (by omega) (by omega)))) | quiet_step ((go_at_call 121;exact Calls.regrown_of (qcy _ _ _ (by omega) (by omega)))))
   refine wpQuiet_nil ?_
   intro W6 hb6;replace HVI:=hid (HVI.out.step hb6);have hbE6:Below E wr W6:=hb6.mono hsz;have hsz6:E≤W6.heap.size:=Nat.le_trans hsz hb6.size;clear q4 q5 q6 q7 qk qw c4 c5 c6 c7 ck cw hb6
   have c0:=HVI.out.v 0 (by omega);have c1:=HVI.out.v 1 (by omega);have c2:=HVI.out.v 2 (by omega)
   simp only [W8.at] at c0 c1 c2
   go_wp2_with fail
   have q0:=cell_regrown c0;have q1:=cell_regrown c1;have q2:=cell_regrown c2
   refine qaE (by kernel_rfl) (by kernel_rfl) ?_
   repeat (first | go_big_quiet_step ((go_at_call 121;exact Calls.regrown_of (qcy _ _ _ (by omega) (by omega)))) | quiet_step ((go_at_call 121;exact Calls.regrown_of (qcy _ _ _ (by omega) (by omega)))))
   refine wpQuiet_nil ?_
   intro W7 hb7;replace HVI:=hid (HVI.out.step hb7);have hbE7:Below E wr W7:=hbE6.trans (hb7.mono hsz6);have hsz7:E≤W7.heap.size:=Nat.le_trans hsz6 hb7.size;clear q0 q1 q2 c0 c1 c2 hb7 hbE6 hsz6
   have c0:=HVI.out.v 0 (by omega);have c1:=HVI.out.v 1 (by omega);have c2:=HVI.out.v 2 (by omega);have c3:=HVI.out.v 3 (by omega);have c4:=HVI.out.v 4 (by omega);have c5:=HVI.out.v 5 (by omega);have c6:=HVI.out.v 6 (by omega)
   simp only [W8.at] at c0 c1 c2 c3 c4 c5 c6
   go_wp2_with fail
   have q0:=cell_regrown c0;have q1:=cell_regrown c1;have q2:=cell_regrown c2;have q3:=cell_regrown c3;have q4:=cell_regrown c4;have q5:=cell_regrown c5;have q6:=cell_regrown c6
   refine qap 26 (by kernel_rfl) (by kernel_rfl) ?_
   simp only [List.take_succ_cons,List.take_zero,List.drop_succ_cons,List.drop_zero]
   repeat (first | go_big_quiet_step (fail) | quiet_step (fail))
   refine wpQuiet_nil ?_
   intro W8' hb8;replace HVI:=hid (HVI.out.step hb8);have hbE8:Below E wr W8':=hbE7.trans (hb8.mono hsz7);have hsz8:E≤W8'.heap.size:=Nat.le_trans hsz7 hb8.size;clear q0 q1 q2 q3 q4 q5 q6 c0 c1 c2 c3 c4 c5 c6 hb8 hbE7 hsz7
   go_wp2_with fail
   go_roundw
   case rel=>
    refine ⟨k+1,W8'.heap.size,8,rnd64 ⟨xa,xb,xc,xd,xe,xf,xg,xh⟩ xk xw,by omega,by go_num,rfl,HSt,?_,HV.out.step (by rw [HEq.out];exact hbE8.alloc hsz8 _),by simp;omega⟩
    refine ⟨fun j hj=>?_,(HVI.out.step (qah W8' _)).w,hsz8,HVI.out.lW⟩
    rw [cell_of_row _ _ _ _ _ _ (qag W8' _)]
    rcases lt8 hj with rfl | rfl | rfl | rfl | rfl | rfl | rfl | rfl
    ·refine congrArg some (congrArg (Value.int .u64) ?_);simp only [rnd64,qeW,W8.at]
    ·rfl
    ·rfl
    ·rfl
    ·refine congrArg some (congrArg (Value.int .u64) ?_);simp only [rnd64,qeW,W8.at]
    ·rfl
    ·rfl
    ·rfl
   case measure=>simp [intOf];omega
  ·have hd:decide ((k:Int)<80)=false:=by simp;omega
   obtain rfl:k=80:=by omega
   go_wp2_with fail
   exact hQ _ _ _ _ _ _ _ _ _ _ _ _ _ _ _ _ _ _ _ _ _ _ _ _ _ _ _ _ _ _ _ _ _ _ _ _ _ _ _ _ _ _ _ _ _ _ _ _ _ _ _ _ _ _ _ _ _ _ _ _ _ _ _ _ _ _ _ _ _ _ _ _ _ _ _ _ _ _ _ _ _ _ _ _ _ _ _ _ _ _ _ _ _ _ _ _ _ _ _ _ _ _ _ _ _ _ _ _ _ _ _ _ _ _ _ _ _ _ _ _ HR HVI.out HV.out hsz
end
end Go.Proofs.YteomfleofeeofaaGreatDoor
