/- The loop of the output of the reference's Sum512. -/
import Derived.Test.YteomfleofeeofaaGreatDoorShaRa
namespace Go.Proofs.YteomfleofeeofaaGreatDoor
open Go.Lib (hid)
set_option maxRecDepth 100000
set_option linter.unusedSimpArgs false
set_option linter.unusedVariables false
section
open Go.RowKit Go.Sort
set_option maxHeartbeats 3000000 in
set_option maxRecDepth 1000000 in
theorem loop6_64 {Q:Exit→Act→World→Prop} {W3 W:World} {B E Hb Sb:Nat} {st:W8} {L:List UInt8} (HEq:Hid (W3.heap.size=E)) {c0 c1 c2 c3 c5 c6 c7 c8 c9 c10 c11 c12 c13 c14 c15 c16 c17 c20 c21 c22 c23 c24 c25 c26 c27 c28 c29 c30 c31 c32 c33 c34 c35 c36 c37 c38 c39 c40 c41 c42 c43 c44 c45 c46 c47 c48 c49 c50 c51 c52 c53 c54 c55 c56 c57 c58 c59 c60 c61 c62 c63 c64 c65 c66 c67 c68 c69 c70 c71 c72 c73 c74 c75 c76 c77 c78 c79 c80 c81 c82 c83 c84 c85 c86 c87 c88 c89 c90 c91 c92 c93 c94 c95 c96 c97 c98 c99 c100 c101 c102 c103 c104 c105 c106 c107 c108 c109 c110 c111 c112 c113 c114 c115 c116 c117 c118 c119 c120 c121 c122 c123 c124 c125 c126 c127 c128 c129 c130 c131 c132 c133 c134 c135 c136 c137 c138 c139 c140 c141 c142 c143 c144 c145 c146 c147 c148 c149 c150 c151 c152 c153 c154 c155 c156 c157 c158 c159 c160 c161 c162 c163 c164 c165 c166 c167 c168 c169 c170 c171 c172 c173 c174 c175 c176 c177 c178 c179 c180 c181 c182 c183 c184 c185 c186 c187 c188 c189 c190 c191 c192 c193 c194 c195 c196 c197 c198 c199 c200 c201 c202 c203 c204 c205 c206 c207 c208 c209 c210 c211 c212 c213 c214 c215 c216 c217 c218 c219 c220 c221 c222 c223 c224 c225 c226 c227 c228 c229 c230 c231 c232 c233 c234 c235 c236 c237 c238 c239 c240 c241 c242 c243 c244 c245 c246 c247 c248 c249 c250 c251 c252 c253 c254 c255 c256 c257 c258 c259 c260 c261 c262 c263 c264 c265 c266 c267 c268 c269 c270:Value} {c:Code} (hc:c=Code.loop (bodyT 5))
  (hv0:RInv64 W3 W B Hb Sb st L) (hsz0:E≤W.heap.size)
  (hQ:∀ (wr:World) (Ob cp:Nat) (u20 u249 u250 u251 u252 u253 u254 u255 u256 u257 u258 u259 u260 u261 u262 u263 u264 u265 u266 u267 u268:Value),(∀ j x,(qb6 st)[j]?=some x→wr.cell? ⟨Ob,j,none⟩=some (.int .u8 x.toNat))→RInv64 W3 wr B Hb Sb st L→Q (Exit.exit 10) ⟨List.toArray (c0 :: c1 :: c2 :: c3 :: (.slice (some ⟨Hb,0,none⟩) 8 8) :: c5 :: c6 :: c7 :: c8 :: c9 :: c10 :: c11 :: c12 :: c13 :: c14 :: c15 :: c16 :: c17 :: (.slice (some ⟨Ob,0,none⟩) 64 cp) :: (.int .i64 8) :: u20 :: c21 :: c22 :: c23 :: c24 :: c25 :: c26 :: c27 :: c28 :: c29 :: c30 :: c31 :: c32 :: c33 :: c34 :: c35 :: c36 :: c37 :: c38 :: c39 :: c40 :: c41 :: c42 :: c43 :: c44 :: c45 :: c46 :: c47 :: c48 :: c49 :: c50 :: c51 :: c52 :: c53 :: c54 :: c55 :: c56 :: c57 :: c58 :: c59 :: c60 :: c61 :: c62 :: c63 :: c64 :: c65 :: c66 :: c67 :: c68 :: c69 :: c70 :: c71 :: c72 :: c73 :: c74 :: c75 :: c76 :: c77 :: c78 :: c79 :: c80 :: c81 :: c82 :: c83 :: c84 :: c85 :: c86 :: c87 :: c88 :: c89 :: c90 :: c91 :: c92 :: c93 :: c94 :: c95 :: c96 :: c97 :: c98 :: c99 :: c100 :: c101 :: c102 :: c103 :: c104 :: c105 :: c106 :: c107 :: c108 :: c109 :: c110 :: c111 :: c112 :: c113 :: c114 :: c115 :: c116 :: c117 :: c118 :: c119 :: c120 :: c121 :: c122 :: c123 :: c124 :: c125 :: c126 :: c127 :: c128 :: c129 :: c130 :: c131 :: c132 :: c133 :: c134 :: c135 :: c136 :: c137 :: c138 :: c139 :: c140 :: c141 :: c142 :: c143 :: c144 :: c145 :: c146 :: c147 :: c148 :: c149 :: c150 :: c151 :: c152 :: c153 :: c154 :: c155 :: c156 :: c157 :: c158 :: c159 :: c160 :: c161 :: c162 :: c163 :: c164 :: c165 :: c166 :: c167 :: c168 :: c169 :: c170 :: c171 :: c172 :: c173 :: c174 :: c175 :: c176 :: c177 :: c178 :: c179 :: c180 :: c181 :: c182 :: c183 :: c184 :: c185 :: c186 :: c187 :: c188 :: c189 :: c190 :: c191 :: c192 :: c193 :: c194 :: c195 :: c196 :: c197 :: c198 :: c199 :: c200 :: c201 :: c202 :: c203 :: c204 :: c205 :: c206 :: c207 :: c208 :: c209 :: c210 :: c211 :: c212 :: c213 :: c214 :: c215 :: c216 :: c217 :: c218 :: c219 :: c220 :: c221 :: c222 :: c223 :: c224 :: c225 :: c226 :: c227 :: c228 :: c229 :: c230 :: c231 :: c232 :: c233 :: c234 :: c235 :: c236 :: c237 :: c238 :: c239 :: c240 :: c241 :: c242 :: c243 :: c244 :: c245 :: c246 :: c247 :: c248 :: u249 :: u250 :: u251 :: u252 :: u253 :: u254 :: u255 :: u256 :: u257 :: u258 :: u259 :: u260 :: u261 :: u262 :: u263 :: u264 :: u265 :: u266 :: u267 :: u268 :: c269 :: c270 :: []),[]⟩ wr) :
  Code.wp Tryz.prog c Q ⟨List.toArray (c0 :: c1 :: c2 :: c3 :: (.slice (some ⟨Hb,0,none⟩) 8 8) :: c5 :: c6 :: c7 :: c8 :: c9 :: c10 :: c11 :: c12 :: c13 :: c14 :: c15 :: c16 :: c17 :: (.slice none 0 0) :: (.int .i64 0) :: c20 :: c21 :: c22 :: c23 :: c24 :: c25 :: c26 :: c27 :: c28 :: c29 :: c30 :: c31 :: c32 :: c33 :: c34 :: c35 :: c36 :: c37 :: c38 :: c39 :: c40 :: c41 :: c42 :: c43 :: c44 :: c45 :: c46 :: c47 :: c48 :: c49 :: c50 :: c51 :: c52 :: c53 :: c54 :: c55 :: c56 :: c57 :: c58 :: c59 :: c60 :: c61 :: c62 :: c63 :: c64 :: c65 :: c66 :: c67 :: c68 :: c69 :: c70 :: c71 :: c72 :: c73 :: c74 :: c75 :: c76 :: c77 :: c78 :: c79 :: c80 :: c81 :: c82 :: c83 :: c84 :: c85 :: c86 :: c87 :: c88 :: c89 :: c90 :: c91 :: c92 :: c93 :: c94 :: c95 :: c96 :: c97 :: c98 :: c99 :: c100 :: c101 :: c102 :: c103 :: c104 :: c105 :: c106 :: c107 :: c108 :: c109 :: c110 :: c111 :: c112 :: c113 :: c114 :: c115 :: c116 :: c117 :: c118 :: c119 :: c120 :: c121 :: c122 :: c123 :: c124 :: c125 :: c126 :: c127 :: c128 :: c129 :: c130 :: c131 :: c132 :: c133 :: c134 :: c135 :: c136 :: c137 :: c138 :: c139 :: c140 :: c141 :: c142 :: c143 :: c144 :: c145 :: c146 :: c147 :: c148 :: c149 :: c150 :: c151 :: c152 :: c153 :: c154 :: c155 :: c156 :: c157 :: c158 :: c159 :: c160 :: c161 :: c162 :: c163 :: c164 :: c165 :: c166 :: c167 :: c168 :: c169 :: c170 :: c171 :: c172 :: c173 :: c174 :: c175 :: c176 :: c177 :: c178 :: c179 :: c180 :: c181 :: c182 :: c183 :: c184 :: c185 :: c186 :: c187 :: c188 :: c189 :: c190 :: c191 :: c192 :: c193 :: c194 :: c195 :: c196 :: c197 :: c198 :: c199 :: c200 :: c201 :: c202 :: c203 :: c204 :: c205 :: c206 :: c207 :: c208 :: c209 :: c210 :: c211 :: c212 :: c213 :: c214 :: c215 :: c216 :: c217 :: c218 :: c219 :: c220 :: c221 :: c222 :: c223 :: c224 :: c225 :: c226 :: c227 :: c228 :: c229 :: c230 :: c231 :: c232 :: c233 :: c234 :: c235 :: c236 :: c237 :: c238 :: c239 :: c240 :: c241 :: c242 :: c243 :: c244 :: c245 :: c246 :: c247 :: c248 :: c249 :: c250 :: c251 :: c252 :: c253 :: c254 :: c255 :: c256 :: c257 :: c258 :: c259 :: c260 :: c261 :: c262 :: c263 :: c264 :: c265 :: c266 :: c267 :: c268 :: c269 :: c270 :: []),[]⟩ W:=by
 subst hc;obtain ⟨i8,hi8,hy0,hy1,hy2⟩:=info_parts qcz
 conv=>arg 2;arg 1;whnf
 go_loopw [18,19] (fun v t wr=>∃ (k:Nat) (ao:Option Addr) (cp:Nat),k≤8∧t=.int .i64 k∧v=.slice ao (8*k) cp∧Own wr E (.slice ao (8*k) cp) (Lib.byteCells ((qb6 st).take (8*k)))∧RInv64 W3 wr B Hb Sb st L∧E≤wr.heap.size) (fun _ t _=>8-(intOf t).toNat)
 case atStart=>exact ⟨0,none,0,by omega,rfl,rfl,Own.nil _ _,hv0,hsz0⟩
 case round=>
  clear hv0 hsz0;obtain ⟨k,ao,cp,hk,rfl,rfl,hown,hv,hsz⟩:=hrel;have HV:=hid hv;have HO:=hid hown;clear hv hown
  by_cases hk8:k<8
  ·have hd:decide ((k:Int)<8)=true:=by simp;omega
   go_wp2_with fail
   go_loopw [18,20] (fun v t wr=>∃ (m:Nat) (ao:Option Addr) (cp:Nat),m≤8∧t=.int .i64 m∧v=.slice ao (8*k+m) cp∧Own wr E (.slice ao (8*k+m) cp) (Lib.byteCells ((qb6 st).take (8*k+m)))∧RInv64 W3 wr B Hb Sb st L∧E≤wr.heap.size) (fun _ t _=>8-(intOf t).toNat)
   case atStart=>exact ⟨0,ao,cp,by omega,rfl,rfl,HO.out,HV.out,hsz⟩
   case round=>
    clear HV HO hsz hd;obtain ⟨m,ao1,cp1,hm,rfl,rfl,hown,hv,hsz⟩:=hrel;have HV:=hid hv;have HO:=hid hown;clear hv hown
    have HL:=hid (show (Lib.byteCells ((qb6 st).take (8*k+m))).length=8*k+m from by rw [Lib.byteCells_length,List.length_take,qb0];omega)
    by_cases hm8:m<8
    ·have hd:decide ((m:Int)<8)=true:=by simp;omega
     have ch:=HV.out.h k hk8;have HSn:=hid (dig64_snoc st k m hk8 hm8);have HB:=hid (wbyte_toNat (st.at k) (56-8*m));generalize st.at k=x at *
     have hs0:(0:Int)≤56-8*(m:Int):=by omega
     have hs1:(56:Int)-8*(m:Int)≤64:=by omega
     have HT:=hid (show ((56:Int)-8*(m:Int)).toNat=56-8*m from by omega)
     go_wp2_with (at_builtin;refine qaI rfl (.tmp 257) (.tmp 267) 41 rfl E 5 i8 (.int .u8 0) 1 Tryz.underlying41 hi8 hy0 hy1 hy2 rfl ao1 (8*k+m) cp1 _ rfl (HO.out.alloc _) HL.out ⟨_,0,none⟩ 1 1 [.int .u8 _] rfl rfl (cell_one_new _ _ _) ?p2 ?p3 ?p4 ?p5 ?_)
     case p2=>intro u hu;simp at hu;subst hu;rfl
     case p3=>omega
     case p4=>omega
     case p5=>simp;omega
     intro ao7 cp7 W7 hown7 hgrow7
     have hb7:Below E wr W7:=qa9 ((Below.refl E wr).alloc hsz _) (by simp;omega) (HO.out.alloc _) hgrow7
     have hsz7:E≤W7.heap.size:=by have:=hgrow7.size;simp at this;omega
     have hown8:Own W7 E (.slice ao7 (8*k+(m+1)) cp7) (Lib.byteCells ((qb6 st).take (8*k+(m+1)))):=by
      rw [← Nat.add_assoc,HSn.out,Lib.byteCells_append]
      have e:Lib.byteCells [wbyte x (56-8*m)]=[.int .u8 (x / 2^(56-8*m)%256)]:=by simp only [Lib.byteCells,List.map_cons,List.map_nil,HB.out]
      rw [e];exact hown7
     replace HV:=hid (HV.out.step (by rw [HEq.out];exact hb7))
     clear hown7 hgrow7 HO hb7
     go_wp2_with fail
     go_roundw
     case rel=>exact ⟨m+1,ao7,cp7,by omega,by go_num,rfl,hown8,HV.out,hsz7⟩
     case measure=>simp [intOf];omega
    ·have hd:decide ((m:Int)<8)=false:=by simp;omega
     obtain rfl:m=8:=by omega
     have hown:=HO.out
     rw [show 8*k+8=8*(k+1) by omega] at hown
     clear HO HL
     rw [show 8*k+8=8*(k+1) by omega]
     go_wp2_with fail
     go_roundw
     case rel=>exact ⟨k+1,ao1,cp1,by omega,by go_num,rfl,hown,HV.out,hsz⟩
     case measure=>simp [intOf];omega
  ·have hd:decide ((k:Int)<8)=false:=by simp;omega
   obtain rfl:k=8:=by omega
   have HL:=hid (show (Lib.byteCells ((qb6 st).take (8*8))).length=64 from by rw [Lib.byteCells_length,List.length_take,qb0];omega)
   obtain ⟨Ob,cpO,hvv,hoO,_⟩:=HO.out.some (by rw [HL.out];omega)
   rw [HL.out] at hvv
   cases hvv
   have hc:∀ j x,(qb6 st)[j]?=some x→wr.cell? ⟨Ob,j,none⟩=some (.int .u8 x.toNat):=fun j x hx=>hoO.cells j _ (by
    rw [List.take_of_length_le (by rw [qb0];omega)]
    simp [Lib.byteCells,hx])
   have HC:=hid hc;clear hc hoO HO HL
   go_wp2_with fail
   exact hQ _ _ _ _ _ _ _ _ _ _ _ _ _ _ _ _ _ _ _ _ _ _ _ _ HC.out HV.out
end
end Go.Proofs.YteomfleofeeofaaGreatDoor
