/- The loop of the schedule of the reference's Sum512. -/
import Derived.Test.YteomfleofeeofaaGreatDoorShaRa
namespace Go.Proofs.YteomfleofeeofaaGreatDoor
open Go.Lib (hid)
set_option maxHeartbeats 16000000
set_option maxRecDepth 100000
set_option linter.unusedSimpArgs false
set_option linter.unusedVariables false
section
open Go.RowKit Go.Sort
set_option maxRecDepth 1000000 in
theorem loop2_64{Q:Exit→Act→World→Prop}{W3 W:World}{B E Hb Sb a nb xL:Nat}{st:W8}{ws:List Int}{L:List UInt8}(vB:Hid (W3.heap.size=E)){c0 c1 c2 c3 c4 c9 uf ug uh vF vG vH vJ vK vL vM vN vO vP vQ vR vS vT vU vV vW vX ui uj uk ul um un uo up uq ur us ut uu uv uw ux uy uz uA uB uC uD uE uF uG uH uI uJ uK uL uM uN uO uP uQ uR uS uT uU uV uW uX uY uZ t0 t1 t2 t3 t4 t5 t6 t7 t8 t9 ta tb tc td te tf tg th ti tj tk tl tm tn to xZ v0 v1 v2 v3 v4 v5 v6 v7 v8 v9 va vb vc vd ve ze zf zg zh zi zj zk zl zm zn zo zp zq zr zs zt zu zv zw zx zy zz zA zB zC zD zE zF zG zH zI zJ zK zL zM zN zO zP zQ zR zS zT zU zV zW zX zY zZ y0 y1 y2 y3 y4 y5 y6 y7 y8 y9 ya yb yc yd ye yf yg yh yi yj yk yl ym yn yo yp yq yr ys yt yu yv yw yx yy yz yA yB yC yD yE yF yG yH yI yJ yK yL yM yN yO yP yQ yR yS yT yU yV yW yX yY yZ x0 x1 x3 x4 x5 x6 x8 x9 xa xb xc xd xe xf xg xh xi xj xk xl xm xn xo xp xq xr xs xt xu xv xw xx xy xz xA xB xC xD xE xF xG xH xI xJ xK:Value}{c:Code}(hc:c=Code.loop (bodyT 1))
  (xX:Hid (L.length=128*nb)) (z2:a+128≤128*nb) (hnbb:128*nb≤2097152) (xY:Hid (qa3 (qbg ((L.drop a).take 128)) 64=ws)) (u1:RInv64 W3 W B Hb Sb st L) (xS:E≤W.heap.size) (hP:∀ ch (a:Act) (d:Tmp) v w,Q (Exit.panic ch) (a.put (some d) v) w→Q (Exit.panic ch) a w)
  (hQ:∀ (wr:World) (Wb cp:Nat) (u9 tA tB tC tD u32 tE tF tG tH tI tJ tK tL tM tN tO tP tQ tR tS tT tU tV tW tX tY tZ s0 s1 s2 s3 s4 s5 s6 s7 s8 u64 s9 sa sb sc sd se sf sg sh si sj sk sl sm sn so sp sq sr ss su sv sw sx sy sz sA sB sC sD sE sF sG sH sI vk vl vm vn vo vp vq vr vs vt vu vv vw vx vy vz:Value),(∀ j,j<80→wr.cell? ⟨Wb,j,none⟩=some (.int .u64 (ws.getD j 0)))→E≤Wb→RInv64 W3 wr B Hb Sb st L→E≤wr.heap.size→Q (Exit.exit 2) ⟨List.toArray (c0 :: c1 :: c2 :: c3 :: c4 :: (.slice (some ⟨Sb,0,none⟩) (128*nb) xL)::(.int .i64 (a:Int))::(.slice (some ⟨Wb,0,none⟩) 80 cp)::(.int .i64 80)::u9 :: tA :: tB :: tC :: vF :: vG :: vH :: vJ :: vK :: vL :: vM :: vN :: vO :: vP :: vQ :: vR :: vS :: vT :: vU :: vV :: vW :: vX :: tD :: u32 :: tE :: tF :: tG :: tH :: tI :: tJ :: tK :: tL :: tM :: tN :: tO :: tP :: tQ :: tR :: tS :: tT :: tU :: tV :: tW :: tX :: tY :: tZ :: s0 :: s1 :: s2 :: s3 :: s4 :: s5 :: s6 :: s7 :: s8 :: u64 :: s9 :: sa :: sb :: sc :: sd :: se :: sf :: sg :: sh :: si :: sj :: sk :: sl :: sm :: sn :: so :: sp :: sq :: sr :: ss :: su :: sv :: sw :: sx :: sy :: sz :: sA :: sB :: sC :: sD :: sE :: sF :: sG :: sH :: sI :: vk :: vl :: vm :: vn :: vo :: vp :: vq :: vr :: vs :: vt :: vu :: vv :: vw :: vx :: vy :: vz :: ze :: zf :: zg :: zh :: zi :: zj :: zk :: zl :: zm :: zn :: zo :: zp :: zq :: zr :: zs :: zt :: zu :: zv :: zw :: zx :: zy :: zz :: zA :: zB :: zC :: zD :: zE :: zF :: zG :: zH :: zI :: zJ :: zK :: zL :: zM :: zN :: zO :: zP :: zQ :: zR :: zS :: zT :: zU :: zV :: zW :: zX :: zY :: zZ :: y0 :: y1 :: y2 :: y3 :: y4 :: y5 :: y6 :: y7 :: y8 :: y9 :: ya :: yb :: yc :: yd :: ye :: yf :: yg :: yh :: yi :: yj :: yk :: yl :: ym :: yn :: yo :: yp :: yq :: yr :: ys :: yt :: yu :: yv :: yw :: yx :: yy :: yz :: yA :: yB :: yC :: yD :: yE :: yF :: yG :: yH :: yI :: yJ :: yK :: yL :: yM :: yN :: yO :: yP :: yQ :: yR :: yS :: yT :: yU :: yV :: yW :: yX :: yY :: yZ :: x0 :: x1 :: x3 :: x4 :: x5 :: x6 :: x8 :: x9 :: xa :: xb :: xc :: xd :: xe :: xf :: xg :: xh :: xi :: xj :: xk :: xl :: xm :: xn :: xo :: xp :: xq :: xr :: xs :: xt :: xu :: xv :: xw :: xx :: xy :: xz :: xA :: xB :: xC :: xD :: xE :: xF :: xG :: xH :: xI :: xJ :: xK :: []),[]⟩ wr) :
  Code.wp Tryz.prog c Q ⟨List.toArray (c0 :: c1 :: c2 :: c3 :: c4 :: (.slice (some ⟨Sb,0,none⟩) (128*nb) xL)::(.int .i64 (a:Int))::(.slice none 0 0)::(.int .i64 0)::c9 :: uf :: ug :: uh :: vF :: vG :: vH :: vJ :: vK :: vL :: vM :: vN :: vO :: vP :: vQ :: vR :: vS :: vT :: vU :: vV :: vW :: vX :: ui :: uj :: uk :: ul :: um :: un :: uo :: up :: uq :: ur :: us :: ut :: uu :: uv :: uw :: ux :: uy :: uz :: uA :: uB :: uC :: uD :: uE :: uF :: uG :: uH :: uI :: uJ :: uK :: uL :: uM :: uN :: uO :: uP :: uQ :: uR :: uS :: uT :: uU :: uV :: uW :: uX :: uY :: uZ :: t0 :: t1 :: t2 :: t3 :: t4 :: t5 :: t6 :: t7 :: t8 :: t9 :: ta :: tb :: tc :: td :: te :: tf :: tg :: th :: ti :: tj :: tk :: tl :: tm :: tn :: to :: xZ :: v0 :: v1 :: v2 :: v3 :: v4 :: v5 :: v6 :: v7 :: v8 :: v9 :: va :: vb :: vc :: vd :: ve :: ze :: zf :: zg :: zh :: zi :: zj :: zk :: zl :: zm :: zn :: zo :: zp :: zq :: zr :: zs :: zt :: zu :: zv :: zw :: zx :: zy :: zz :: zA :: zB :: zC :: zD :: zE :: zF :: zG :: zH :: zI :: zJ :: zK :: zL :: zM :: zN :: zO :: zP :: zQ :: zR :: zS :: zT :: zU :: zV :: zW :: zX :: zY :: zZ :: y0 :: y1 :: y2 :: y3 :: y4 :: y5 :: y6 :: y7 :: y8 :: y9 :: ya :: yb :: yc :: yd :: ye :: yf :: yg :: yh :: yi :: yj :: yk :: yl :: ym :: yn :: yo :: yp :: yq :: yr :: ys :: yt :: yu :: yv :: yw :: yx :: yy :: yz :: yA :: yB :: yC :: yD :: yE :: yF :: yG :: yH :: yI :: yJ :: yK :: yL :: yM :: yN :: yO :: yP :: yQ :: yR :: yS :: yT :: yU :: yV :: yW :: yX :: yY :: yZ :: x0 :: x1 :: x3 :: x4 :: x5 :: x6 :: x8 :: x9 :: xa :: xb :: xc :: xd :: xe :: xf :: xg :: xh :: xi :: xj :: xk :: xl :: xm :: xn :: xo :: xp :: xq :: xr :: xs :: xt :: xu :: xv :: xw :: xx :: xy :: xz :: xA :: xB :: xC :: xD :: xE :: xF :: xG :: xH :: xI :: xJ :: xK :: []),[]⟩ W:=by
 subst hc;obtain⟨i0,hi,u3,u4,u5⟩:=info_parts info_u64;have xU:=hid (show ws.length=80 from by rw[← xY.out,qcS _ (qcl _)])
 conv=>arg 2;arg 1;whnf
 go_loopw [7,8] (fun v t wr=>∃ (k:Nat) (ao:Option Addr) (cp:Nat),k≤80∧t=.int .i64 k∧v=.slice ao k cp∧Own wr E (.slice ao k cp) (qb6 (ws.take k))∧RInv64 W3 wr B Hb Sb st L∧E≤wr.heap.size) (fun _ t _=>80-(intOf t).toNat)
 case atStart=>exact⟨0,none,0,by omega,rfl,rfl,Own.nil _ _,u1,xS⟩
 case round=>
  clear u1 xS;obtain⟨k,ao,cp,hk,rfl,rfl,xQ,hv,xW⟩:=hrel;have HV:=hid hv;have HO:=hid xQ;clear hv xQ;have HL:=hid (show (qb6 (ws.take k)).length=k from by rw[qgi,List.length_take,xU.out];omega);by_cases hk64:k<80
  ·have hd:decide ((k:Int)<80)=true:=by simp;omega
   by_cases z5:k<16
   ·have vg:decide ((k:Int)<16)=true:=by simp;omega
    have vA:=hid (fun n hn=>eight_at L a k n z5 hn (by rw[xX.out];exact z2));have vD:=hid (eight_word L a k z5 (by rw[xX.out];exact z2));have vC:=hid (fun n (hn:n≤8)=>ldn_lt (qez L a k) n (by rw[qfS L a k z5 (by rw[xX.out];exact z2)];exact hn));generalize qez L a k=bl at *;go_wp2_with fail
    go_loopw [9,10] (fun x i sJ=>∃ n:Nat,n≤8∧i=.int .i64 n∧x=.int .u64 ((ldn (bl.take n):Nat):Int)∧sJ=wr) (fun _ i _=>8-(intOf i).toNat)
    case atStart=>exact⟨0,by omega,rfl,by first|rfl|trivial,by first|rfl|trivial⟩
    case round=>
     obtain⟨n,hn,rfl,rfl,rfl⟩:=hrel;by_cases tu:n<8
     ·have tt:decide ((n:Int)<8)=true:=by simp;omega
      obtain⟨x,hx,u0⟩:=vA.out n tu;have cx:=HV.out.s _ _ hx;have tw:=vC.out n hn;have h7:256^n≤256^7:=Nat.pow_le_pow_right (by omega) (by omega);have hx8:=UInt8.toNat_lt x;have ua:=hid (show ldn (bl.take (n+1))=ldn (bl.take n)*256+x.toNat from by rw[u0,ldn_snoc]);have u2:ldn (bl.take n)<72057594037927936:=by omega
      clear hx u0 tw h7;generalize ldn (bl.take n)=v at *;have hp0:(0:Int)≤(a:Int)+8*(k:Int)+(n:Int):=by omega
      have hp1:(a:Int)+8*(k:Int)+(n:Int)<128*(nb:Int):=by omega
      go_wp2_with fail;go_roundw
      case rel=>
       refine⟨n+1,by omega,by go_num,?_,by first|rfl|trivial⟩;rw[ua.out];refine congrArg (Value.int .u64) ?_;simp[IntKind.wrap];omega
      case measure=>simp[intOf];omega
     ·have tt:decide ((n:Int)<8)=false:=by simp;omega
      obtain rfl:n=8:=by omega
      have u7:=hid (show (ws.take k)++[((ldn (bl.take 8):Nat):Int)]=ws.take (k+1) from by
       rw[← xY.out,sch64_take _ (qcl _) 64 k z5,vD.out])
      generalize ((ldn (bl.take 8):Nat):Int)=x at *;clear vA vD vC;go_wp2_with (at_builtin;refine qaB rfl (.tmp 54) (.tmp 56) 97 rfl E 57 i0 (.int .u64 0) 8 Tryz.underlying97 hi u3 u4 u5 rfl ao k cp _ rfl (HO.out.alloc _) HL.out ⟨_,0,none⟩ 1 1 [.int .u64 x] rfl rfl (cell_one_new _ _ _) ?b2 ?b3 ?b4 ?b5 ?_)
      case b2=>intro u hu;simp at hu;subst hu;rfl
      case b3=>omega
      case b4=>omega
      case b5=>simp;omega
      intro ue tp W5 z7 z0;have z4:Below E _ W5:=qaV ((Below.refl E _).alloc xW _) (by simp;omega) (HO.out.alloc _) z0;have z3:E≤W5.heap.size:=by have:=z0.size;simp at this;omega
      rw[wcells64_snoc,u7.out]at z7;have tv:=hid (HV.out.step (by rw[vB.out];exact z4));clear z0 HO z4;go_wp2_with fail;go_roundw
      case rel=>exact⟨k+1,ue,tp,by omega,by go_num,rfl,z7,tv.out,z3⟩
      case measure=>simp[intOf];omega
   ·have vg:decide ((k:Int)<16)=false:=by simp;omega
    obtain⟨Wb,tq,xT,zd,vf⟩:=HO.out.some (by rw[HL.out];omega);rw[HL.out]at xT
    cases xT
    have z6:∀ j,j<k→wr.cell? ⟨Wb,j,none⟩=some (.int .u64 ((ws.take k).getD j 0)):=fun j hj=>zd.cells j _ (by
     have vh:j<(ws.take k).length:=by rw[List.length_take,xU.out];omega
     simp only[qb6,List.getElem?_map,List.getElem?_eq_getElem vh,Option.map_some,List.getD_eq_getElem?_getD,Option.getD_some])
    have he:ext64 (ws.take k) k=IntKind.u64.wrap (IntKind.u64.wrap (IntKind.u64.wrap ((ws.take k).getD (k-16) 0+(ws.take k).getD (k-7) 0)+qet ((ws.take k).getD (k-15) 0) 1 8 7)+qet ((ws.take k).getD (k-2) 0) 19 61 6):=rfl;have z9:=z6 (k-16) (by omega);have w7:=z6 (k-7) (by omega);have u6:=z6 (k-15) (by omega);have w2:=z6 (k-2) (by omega);generalize (ws.take k).getD (k-16) 0=x16 at *;generalize (ws.take k).getD (k-7) 0=x7 at *;generalize (ws.take k).getD (k-15) 0=x15 at *;generalize (ws.take k).getD (k-2) 0=x2 at *;have ub:=hid he;have u8:=hid (show (ws.take k)++[ext64 (ws.take k) k]=ws.take (k+1) from by
     rw[← xY.out,sch64_take2 _ (qcl _) 64 k (by omega) (by omega)])
    clear he z6 zd;have tr:(0:Int)≤(k:Int)-15:=by omega
    have ts:(k:Int)-15<(k:Int):=by omega
    go_wp2_with fail;have tx:=jcr u6;refine qav (by kernel_rfl) (by kernel_rfl) ?_
    repeat (first|go_big_quiet_step ((go_at_call 121;exact Calls.regrown_of (qcL _ _ _ (by omega) (by omega))))|quiet_step ((go_at_call 121;exact Calls.regrown_of (qcL _ _ _ (by omega) (by omega)))))
    refine jqn ?_;intro W4 zb;replace z9:=(zb.cell (jbc z9)).trans z9;replace w7:=(zb.cell (jbc w7)).trans w7;replace w2:=(zb.cell (jbc w2)).trans w2;have za:=hid (HO.out.below zb);have xM:Below E wr W4:=zb.mono xW;have zc:E≤W4.heap.size:=jlt xW zb.size;clear tx u6 zb tr ts;go_wp2_with fail;have k2:=jcr w2;refine qav (by kernel_rfl) (by kernel_rfl) ?_
    repeat (first|go_big_quiet_step ((go_at_call 121;exact Calls.regrown_of (qcL _ _ _ (by omega) (by omega))))|quiet_step ((go_at_call 121;exact Calls.regrown_of (qcL _ _ _ (by omega) (by omega)))))
    refine jqn ?_;intro W5 z4;replace z9:=(z4.cell (jbc z9)).trans z9;replace w7:=(z4.cell (jbc w7)).trans w7;replace za:=hid (za.out.below z4);have xN:Below E wr W5:=xM.trans (z4.mono zc);have z3:E≤W5.heap.size:=jlt zc z4.size;clear k2 w2 z4 xM zc;go_wp2_with fail;have ty:=jcr z9;have k7:=jcr w7;refine qbx 16 _ rfl rfl rfl (by kernel_rfl) (by kernel_rfl) (fun _ _ _ _ h=>hP _ _ _ _ _ h) ?_;simp only[Nat.reduceSub,List.take_succ_cons,List.take_zero,List.drop_succ_cons,List.drop_zero];dsimp only[Act.put,Act.eval]
    repeat (first|go_big_quiet_step (fail)|quiet_step (fail))
    refine jqn ?_;intro W6 xV;replace za:=hid (za.out.below xV);have xO:Below E wr W6:=xN.trans (xV.mono z3);have vi:E≤W6.heap.size:=jlt z3 xV.size;clear ty k7 z9 w7 xV xN z3;go_wp2_with (at_builtin;refine qaB rfl (.tmp 98) (.tmp 114) 97 rfl E 57 i0 (.int .u64 0) 8 Tryz.underlying97 hi u3 u4 u5 rfl (some ⟨Wb,0,none⟩) k cp _ rfl (za.out.alloc _) HL.out ⟨W6.heap.size,0,none⟩ 1 1 [.int .u64 _] rfl rfl (cell_one_new _ _ _) ?e2 ?e3 ?e4 ?e5 ?_)
    case e2=>intro u hu;simp at hu;subst hu;rfl
    case e3=>omega
    case e4=>omega
    case e5=>simp;omega
    intro vE vY W7 z8 z1;have vZ:Below E wr W7:=qaV (xO.alloc (by omega) _) (by simp;omega) (za.out.alloc _) z1;have vj:E≤W7.heap.size:=by have:=z1.size;simp at this;omega
    have xR:Own W7 E (.slice vE (k+1) vY) (qb6 (ws.take (k+1))):=by
     rw[← u8.out,← wcells64_snoc,ub.out];exact z8
    have u2:=hid (HV.out.step (by rw[vB.out];exact vZ));clear z8 z1 HO za xO vi vZ;go_wp2_with fail;go_roundw
    case rel=>exact⟨k+1,vE,vY,by omega,by go_num,rfl,xR,u2.out,vj⟩
    case measure=>simp[intOf];omega
  ·have hd:decide ((k:Int)<80)=false:=by simp;omega
   obtain rfl:k=80:=by omega
   obtain⟨Wb,tq,xT,zd,vf⟩:=HO.out.some (by rw[HL.out];omega);rw[HL.out]at xT
   cases xT
   have z6:∀ j,j<80→wr.cell? ⟨Wb,j,none⟩=some (.int .u64 (ws.getD j 0)):=fun j hj=>zd.cells j _ (by
    have vh:j<ws.length:=by rw[xU.out];omega
    rw[jtl (by rw[xU.out];omega)];simp only[qb6,List.getElem?_map,List.getElem?_eq_getElem vh,Option.map_some,List.getD_eq_getElem?_getD,Option.getD_some])
   have tz:=zd.base;have ud:=hid z6;clear zd z6 HO HL;go_wp2_with fail;exact hQ _ _ _ _ _ _ _ _ _ _ _ _ _ _ _ _ _ _ _ _ _ _ _ _ _ _ _ _ _ _ _ _ _ _ _ _ _ _ _ _ _ _ _ _ _ _ _ _ _ _ _ _ _ _ _ _ _ _ _ _ _ _ _ _ _ _ _ _ _ _ _ _ _ _ _ _ _ _ _ _ _ _ _ _ _ _ _ _ _ _ _ _ ud.out tz HV.out xW
end
end Go.Proofs.YteomfleofeeofaaGreatDoor
