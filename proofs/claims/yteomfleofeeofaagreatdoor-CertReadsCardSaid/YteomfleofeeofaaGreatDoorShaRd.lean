/- The loop of the output of the reference's Sum512. -/
import Derived.Test.YteomfleofeeofaaGreatDoorShaRa
namespace Go.Proofs.YteomfleofeeofaaGreatDoor
open Go.Lib (hid)
set_option maxHeartbeats 16000000
set_option maxRecDepth 100000
set_option linter.unusedSimpArgs false
set_option linter.unusedVariables false
section
open Go.RowKit Go.Sort
set_option maxRecDepth 1000000 in
theorem loop6_64{Q:Exit→Act→World→Prop}{W3 W:World}{B E Hb Sb:Nat}{st:W8}{L:List UInt8}(uO:Hid (W3.heap.size=E)){c0 c1 c2 c3 c5 c6 c7 c8 c9 vf vg vh vi vj vk vl vm uQ vn vo vp vq vr vs vt vu vv vw vx vy vz vA vB vC vD vE vF vG vH vJ vK vL vM vN vO vP vQ vR vS vT vU vV vW vX vY vZ u0 u1 u2 u3 u4 u5 u6 u7 u9 ua ub ud ue uf ug uh ui uj uk ul um un uo up uq ur us ut uu uv uw ux uy uz uA uB uC uD uE uF uG z3 z4 z5 z6 z7 z8 z9 za zb zc zd ze zf zg zh zi zj zk zl zm zn zo zp zq zr zs zt zu zv zw zx zy zz zA zB zC zD zE zF zG zH zI zJ zK zL zM zN zO zP zQ zR zS zT zU zV zW zX zY zZ y0 y1 y2 y3 y4 y5 y6 y7 y8 y9 ya yb yc yd ye yf yg yh yi yj yk yl ym yn yo yp yq yr ys yt yu yv yw yx yy yz yA yB yC yD yE yF yG yH yI yJ yK yL yM yN yO yP yQ yR yS yT yU yV yW yX yY yZ x0 x1 x2 x3 x4 x5 x6 x7 x8 x9 xa xb xc xd xe xf xg xh xi xj xk xl xm xn xo xp xq xr xx xy xz xA xB xC xD xE xF xG xH xI xJ xK xL xM xN xO xQ xR xs xt:Value}{c:Code}(hc:c=Code.loop (bodyT 5))
  (uM:RInv64 W3 W B Hb Sb st L) (xw:E≤W.heap.size)
  (hQ:∀ (wr:World) (Ob cp:Nat) (uW xT xU xV xW xX xY xZ v0 v1 v2 v3 v4 v5 v6 v7 v8 v9 va vb vc:Value),(∀ j x,(qcq st)[j]?=some x→wr.cell? ⟨Ob,j,none⟩=some (.int .u8 x.toNat))→RInv64 W3 wr B Hb Sb st L→Q (Exit.exit 10) ⟨List.toArray (c0 :: c1 :: c2 :: c3 :: (.slice (some ⟨Hb,0,none⟩) 8 8)::c5 :: c6 :: c7 :: c8 :: c9 :: vf :: vg :: vh :: vi :: vj :: vk :: vl :: vm :: (.slice (some ⟨Ob,0,none⟩) 64 cp)::(.int .i64 8)::uW :: vn :: vo :: vp :: vq :: vr :: vs :: vt :: vu :: vv :: vw :: vx :: vy :: vz :: vA :: vB :: vC :: vD :: vE :: vF :: vG :: vH :: vJ :: vK :: vL :: vM :: vN :: vO :: vP :: vQ :: vR :: vS :: vT :: vU :: vV :: vW :: vX :: vY :: vZ :: u0 :: u1 :: u2 :: u3 :: u4 :: u5 :: u6 :: u7 :: u9 :: ua :: ub :: ud :: ue :: uf :: ug :: uh :: ui :: uj :: uk :: ul :: um :: un :: uo :: up :: uq :: ur :: us :: ut :: uu :: uv :: uw :: ux :: uy :: uz :: uA :: uB :: uC :: uD :: uE :: uF :: uG :: z3 :: z4 :: z5 :: z6 :: z7 :: z8 :: z9 :: za :: zb :: zc :: zd :: ze :: zf :: zg :: zh :: zi :: zj :: zk :: zl :: zm :: zn :: zo :: zp :: zq :: zr :: zs :: zt :: zu :: zv :: zw :: zx :: zy :: zz :: zA :: zB :: zC :: zD :: zE :: zF :: zG :: zH :: zI :: zJ :: zK :: zL :: zM :: zN :: zO :: zP :: zQ :: zR :: zS :: zT :: zU :: zV :: zW :: zX :: zY :: zZ :: y0 :: y1 :: y2 :: y3 :: y4 :: y5 :: y6 :: y7 :: y8 :: y9 :: ya :: yb :: yc :: yd :: ye :: yf :: yg :: yh :: yi :: yj :: yk :: yl :: ym :: yn :: yo :: yp :: yq :: yr :: ys :: yt :: yu :: yv :: yw :: yx :: yy :: yz :: yA :: yB :: yC :: yD :: yE :: yF :: yG :: yH :: yI :: yJ :: yK :: yL :: yM :: yN :: yO :: yP :: yQ :: yR :: yS :: yT :: yU :: yV :: yW :: yX :: yY :: yZ :: x0 :: x1 :: x2 :: x3 :: x4 :: x5 :: x6 :: x7 :: x8 :: x9 :: xa :: xb :: xc :: xd :: xe :: xf :: xg :: xh :: xi :: xj :: xk :: xl :: xm :: xn :: xo :: xp :: xq :: xr :: xT :: xU :: xV :: xW :: xX :: xY :: xZ :: v0 :: v1 :: v2 :: v3 :: v4 :: v5 :: v6 :: v7 :: v8 :: v9 :: va :: vb :: vc :: xs :: xt :: []),[]⟩ wr) :
  Code.wp Tryz.prog c Q ⟨List.toArray (c0 :: c1 :: c2 :: c3 :: (.slice (some ⟨Hb,0,none⟩) 8 8)::c5 :: c6 :: c7 :: c8 :: c9 :: vf :: vg :: vh :: vi :: vj :: vk :: vl :: vm :: (.slice none 0 0)::(.int .i64 0)::uQ :: vn :: vo :: vp :: vq :: vr :: vs :: vt :: vu :: vv :: vw :: vx :: vy :: vz :: vA :: vB :: vC :: vD :: vE :: vF :: vG :: vH :: vJ :: vK :: vL :: vM :: vN :: vO :: vP :: vQ :: vR :: vS :: vT :: vU :: vV :: vW :: vX :: vY :: vZ :: u0 :: u1 :: u2 :: u3 :: u4 :: u5 :: u6 :: u7 :: u9 :: ua :: ub :: ud :: ue :: uf :: ug :: uh :: ui :: uj :: uk :: ul :: um :: un :: uo :: up :: uq :: ur :: us :: ut :: uu :: uv :: uw :: ux :: uy :: uz :: uA :: uB :: uC :: uD :: uE :: uF :: uG :: z3 :: z4 :: z5 :: z6 :: z7 :: z8 :: z9 :: za :: zb :: zc :: zd :: ze :: zf :: zg :: zh :: zi :: zj :: zk :: zl :: zm :: zn :: zo :: zp :: zq :: zr :: zs :: zt :: zu :: zv :: zw :: zx :: zy :: zz :: zA :: zB :: zC :: zD :: zE :: zF :: zG :: zH :: zI :: zJ :: zK :: zL :: zM :: zN :: zO :: zP :: zQ :: zR :: zS :: zT :: zU :: zV :: zW :: zX :: zY :: zZ :: y0 :: y1 :: y2 :: y3 :: y4 :: y5 :: y6 :: y7 :: y8 :: y9 :: ya :: yb :: yc :: yd :: ye :: yf :: yg :: yh :: yi :: yj :: yk :: yl :: ym :: yn :: yo :: yp :: yq :: yr :: ys :: yt :: yu :: yv :: yw :: yx :: yy :: yz :: yA :: yB :: yC :: yD :: yE :: yF :: yG :: yH :: yI :: yJ :: yK :: yL :: yM :: yN :: yO :: yP :: yQ :: yR :: yS :: yT :: yU :: yV :: yW :: yX :: yY :: yZ :: x0 :: x1 :: x2 :: x3 :: x4 :: x5 :: x6 :: x7 :: x8 :: x9 :: xa :: xb :: xc :: xd :: xe :: xf :: xg :: xh :: xi :: xj :: xk :: xl :: xm :: xn :: xo :: xp :: xq :: xr :: xx :: xy :: xz :: xA :: xB :: xC :: xD :: xE :: xF :: xG :: xH :: xI :: xJ :: xK :: xL :: xM :: xN :: xO :: xQ :: xR :: xs :: xt :: []),[]⟩ W:=by
 subst hc;obtain⟨i8,uR,uT,uU,uV⟩:=info_parts qca
 conv=>arg 2;arg 1;whnf
 go_loopw [18,19] (fun v t wr=>∃ (k:Nat) (ao:Option Addr) (cp:Nat),k≤8∧t=.int .i64 k∧v=.slice ao (8*k) cp∧Own wr E (.slice ao (8*k) cp) (Lib.byteCells ((qcq st).take (8*k)))∧RInv64 W3 wr B Hb Sb st L∧E≤wr.heap.size) (fun _ t _=>8-(intOf t).toNat)
 case atStart=>exact⟨0,none,0,by omega,rfl,rfl,Own.nil _ _,uM,xw⟩
 case round=>
  clear uM xw;obtain⟨k,ao,cp,hk,rfl,rfl,z0,hv,xv⟩:=hrel;have HV:=hid hv;have HO:=hid z0;clear hv z0;by_cases uK:k<8
  ·have hd:decide ((k:Int)<8)=true:=by simp;omega
   go_wp2_with fail
   go_loopw [18,20] (fun v t wr=>∃ (m:Nat) (ao:Option Addr) (cp:Nat),m≤8∧t=.int .i64 m∧v=.slice ao (8*k+m) cp∧Own wr E (.slice ao (8*k+m) cp) (Lib.byteCells ((qcq st).take (8*k+m)))∧RInv64 W3 wr B Hb Sb st L∧E≤wr.heap.size) (fun _ t _=>8-(intOf t).toNat)
   case atStart=>exact⟨0,ao,cp,by omega,rfl,rfl,HO.out,HV.out,xv⟩
   case round=>
    clear HV HO xv hd;obtain⟨m,vd,uH,hm,rfl,rfl,z0,hv,xv⟩:=hrel;have HV:=hid hv;have HO:=hid z0;clear hv z0;have HL:=hid (show (Lib.byteCells ((qcq st).take (8*k+m))).length=8*k+m from by rw[Lib.byteCells_length,List.length_take,qcg];omega);by_cases uS:m<8
    ·have hd:decide ((m:Int)<8)=true:=by simp;omega
     have ch:=HV.out.h k uK;have uP:=hid (dig64_snoc st k m uK uS);have HB:=hid (qde (st.at k) (56-8*m));generalize st.at k=x at *;have hs0:(0:Int)≤56-8*(m:Int):=by omega
     have hs1:(56:Int)-8*(m:Int)≤64:=by omega
     have HT:=hid (show ((56:Int)-8*(m:Int)).toNat=56-8*m from by omega);go_wp2_with (at_builtin;refine qaB rfl (.tmp 257) (.tmp 267) 41 rfl E 5 i8 (.int .u8 0) 1 Tryz.underlying41 uR uT uU uV rfl vd (8*k+m) uH _ rfl (HO.out.alloc _) HL.out ⟨_,0,none⟩ 1 1 [.int .u8 _] rfl rfl (cell_one_new _ _ _) ?p2 ?p3 ?p4 ?p5 ?_)
     case p2=>intro u hu;simp at hu;subst hu;rfl
     case p3=>omega
     case p4=>omega
     case p5=>simp;omega
     intro ve uI W7 z2 z1;have uJ:Below E wr W7:=qaV ((Below.refl E wr).alloc xv _) (by simp;omega) (HO.out.alloc _) z1;have xS:E≤W7.heap.size:=by have:=z1.size;simp at this;omega
     have xu:Own W7 E (.slice ve (8*k+(m+1)) uI) (Lib.byteCells ((qcq st).take (8*k+(m+1)))):=by
      rw[← Nat.add_assoc,uP.out,Lib.byteCells_append];have e:Lib.byteCells [qc9 x (56-8*m)]=[.int .u8 (x/2^(56-8*m)%256)]:=by simp only[Lib.byteCells,List.map_cons,List.map_nil,HB.out]
      rw[e];exact z2
     replace HV:=hid (HV.out.step (by rw[uO.out];exact uJ));clear z2 z1 HO uJ;go_wp2_with fail;go_roundw
     case rel=>exact⟨m+1,ve,uI,by omega,by go_num,rfl,xu,HV.out,xS⟩
     case measure=>simp[intOf];omega
    ·have hd:decide ((m:Int)<8)=false:=by simp;omega
     obtain rfl:m=8:=by omega
     have z0:=HO.out;rw[show 8*k+8=8*(k+1) by omega]at z0;clear HO HL;rw[show 8*k+8=8*(k+1) by omega];go_wp2_with fail;go_roundw
     case rel=>exact⟨k+1,vd,uH,by omega,by go_num,rfl,z0,HV.out,xv⟩
     case measure=>simp[intOf];omega
  ·have hd:decide ((k:Int)<8)=false:=by simp;omega
   obtain rfl:k=8:=by omega
   have HL:=hid (show (Lib.byteCells ((qcq st).take (8*8))).length=64 from by rw[Lib.byteCells_length,List.length_take,qcg];omega);obtain⟨Ob,cpO,uN,uL,_⟩:=HO.out.some (by rw[HL.out];omega);rw[HL.out]at uN
   cases uN
   have hc:∀ j x,(qcq st)[j]?=some x→wr.cell? ⟨Ob,j,none⟩=some (.int .u8 x.toNat):=fun j x hx=>uL.cells j _ (by
    rw[jtl (by rw[qcg];omega)];simp[Lib.byteCells,hx])
   have HC:=hid hc;clear hc uL HO HL;go_wp2_with fail;exact hQ _ _ _ _ _ _ _ _ _ _ _ _ _ _ _ _ _ _ _ _ _ _ _ _ HC.out HV.out
end
end Go.Proofs.YteomfleofeeofaaGreatDoor
