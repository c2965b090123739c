/- The program's words: the sum of two words with a carry, the difference with a borrow, the product and two sums; The program's sums and differences of limbs: plus, plusWord, minus, plusTimes; The program's difference of limbs; The program's sum of limbs and a word; The program's sum of limbs and of limbs times a word; The program's product of limbs: the low half and the high one; The program's last reduction: the least number; The program's sum and product of numbers, and the squares; The program's squares, so many times; The program's power of 250 bits that are 1; The program's difference: the prime lies in its variable; The program's small numbers, and whichever of two is even; The program's inverse, and its root of minus one; Whether two of the program's numbers are the same; The program's root; The program's bytes of a number; The program's number of bytes. -/
import Derived.Test.YteomfleofeeofaaGreatDoorBase
import Derived.Test.YteomfleofeeofaaGreatDoorMul64
import Derived.Test.YteomfleofeeofaaGreatDoorFldA
import Derived.Shelf.Spec.BitsCarry
import Derived.Laws.Tables
import Derived.Laws.ResultCell
import Derived.Laws.CopyRow
import Derived.Deep.Cut
import Derived.Laws.StructEq
import Derived.ChangeKeysEq
namespace Go.Proofs.YteomfleofeeofaaGreatDoor
open Go.Lib (hid)
open _root_.List (take_succ_cons drop_succ_cons set_cons_succ set_cons_zero setIfInBounds_toArray)
open _root_.Array (getD_eq_getD_getElem?)
set_option maxRecDepth 100000
set_option linter.unusedSimpArgs false
set_option linter.unusedVariables false
section
open Go.RowKit Go.Sort
theorem add64_any (x y c:Nat) (hc:c≤1) (w:World):(callFunc 217 #[.int .u64 (x:Int),.int .u64 (y:Int),.int .u64 (c:Int)]).run Tryz.prog w =
  .ok (.value (.tuple #[.int .u64 (((x+y+c)%18446744073709551616:Nat):Int),.int .u64 (((x+y+c) / 18446744073709551616:Nat):Int)])) w:=by
 rw [run_callFunc_extern Tryz.func217 (by kernel_rfl) (by kernel_rfl) (by kernel_rfl) (e:=add64Entry) (by kernel_rfl),run_add64 x y c (by omega) (by omega) (by omega) (by omega)]
 simp only [Result.andThen]
 congr 5 <;> omega
theorem add64_told {x y c z q:Nat} (hc:c≤1) (hz:(x+y+c)%18446744073709551616=z) (hq:(x+y+c) / 18446744073709551616=q) (w:World):(callFunc 217 #[.int .u64 (x:Int),.int .u64 (y:Int),.int .u64 (c:Int)]).run Tryz.prog w =
  .ok (.value (.tuple #[.int .u64 (z:Int),.int .u64 (q:Int)])) w:=by subst hz hq;exact add64_any x y c hc w
theorem qf4 {x y z q:Nat} (hz:(x+y)%18446744073709551616=z) (hq:(x+y) / 18446744073709551616=q) (w:World):(callFunc 217 #[.int .u64 (x:Int),.int .u64 (y:Int),.int .u64 0]).run Tryz.prog w =
  .ok (.value (.tuple #[.int .u64 (z:Int),.int .u64 (q:Int)])) w:=add64_told (c:=0) (by omega) hz hq w
theorem sub64_any (x y b:Nat) (hb:b≤1) (w:World):(callFunc 218 #[.int .u64 (x:Int),.int .u64 (y:Int),.int .u64 (b:Int)]).run Tryz.prog w =
  .ok (.value (.tuple #[.int .u64 (((x+18446744073709551616-y-b)%18446744073709551616:Nat):Int),.int .u64 ((if x<y+b then 1 else 0:Nat):Int)])) w:=by
 rw [run_callFunc_extern Tryz.func218 (by kernel_rfl) (by kernel_rfl) (by kernel_rfl) (e:=sub64Entry) (by kernel_rfl),run_sub64 x y b hb]
 rfl
theorem sub64_told {x y b z q:Nat} (hb:b≤1) (hz:(x+18446744073709551616-y-b)%18446744073709551616=z) (hq:(if x<y+b then 1 else 0)=q) (w:World):(callFunc 218 #[.int .u64 (x:Int),.int .u64 (y:Int),.int .u64 (b:Int)]).run Tryz.prog w =
  .ok (.value (.tuple #[.int .u64 (z:Int),.int .u64 (q:Int)])) w:=by subst hz hq;exact sub64_any x y b hb w
theorem word_parts (a b c d h l:Nat) (hc:c<18446744073709551616) (hd:d<18446744073709551616) (hh:c*d / 18446744073709551616=h) (hl:c*d%18446744073709551616=l) (ha:a<18446744073709551616) (hb:b<18446744073709551616) :
  ((l+a)%18446744073709551616+b)%18446744073709551616=(a+b+c*d)%18446744073709551616∧h+(l+a) / 18446744073709551616+((l+a)%18446744073709551616+b) / 18446744073709551616=(a+b+c*d) / 18446744073709551616∧(a+b+c*d) / 18446744073709551616<18446744073709551616:=by
 have hm:c*d≤18446744073709551615*18446744073709551615:=Nat.mul_le_mul (by omega) (by omega)
 generalize c*d=m at *
 omega
theorem sumProd_any (a b c d z q:Nat) (w:World) (ha:a<18446744073709551616) (hb:b<18446744073709551616) (hc:c<18446744073709551616) (hd:d<18446744073709551616) (hz:(a+b+c*d)%18446744073709551616=z) (hq:(a+b+c*d) / 18446744073709551616=q) :
  Calls Tryz.prog 202 #[.int .u64 (a:Int),.int .u64 (b:Int),.int .u64 (c:Int),.int .u64 (d:Int)] w fun e w'=>e=.returned (.tuple #[.int .u64 (z:Int),.int .u64 (q:Int)])∧w'=w:=by
 have HM:=hid (fun W=>Tryz.bits_Mul64 c d hc hd W)
 obtain ⟨h,hh⟩:∃ h,c*d / 18446744073709551616=h:=⟨_,rfl⟩;obtain ⟨l,hl⟩:∃ l,c*d%18446744073709551616=l:=⟨_,rfl⟩;obtain ⟨p1,p2,p3⟩:=word_parts a b c d h l hc hd hh hl ha hb;rw [hh,hl] at HM;rw [hz] at p1;rw [hq] at p2 p3;clear hz hq hc hd hh hl;obtain ⟨y,hy⟩:∃ y,(l+a)%18446744073709551616=y:=⟨_,rfl⟩;obtain ⟨o,ho⟩:∃ o,(l+a) / 18446744073709551616=o:=⟨_,rfl⟩;obtain ⟨u,hu⟩:∃ u,(y+b) / 18446744073709551616=u:=⟨_,rfl⟩;rw [hy] at p1 p2;rw [ho,hu] at p2;have a1:=qf4 hy ho;have a2:=qf4 p1 hu
 have w1:((h:Int)+(o:Int))%18446744073709551616=(h:Int)+(o:Int):=by omega
 have w2:((h:Int)+(o:Int)+(u:Int))%18446744073709551616=(q:Int):=by omega
 have w3:IntKind.u64.wrap ((h:Int)+(o:Int)+(u:Int))=(q:Int):=by rw [IntKind.wrap_u64];exact w2
 clear hy ho hu p1 p2 p3 ha hb
 go_enter Tryz.func202,Tryz.ntmps202
 go_wp2_with fail
 refine (HM.out _).mono ?_
 rintro e W1 ⟨rfl,rfl⟩
 go_wp2_with fail
 go_ret2
 exact ⟨rfl,rfl⟩
end
section
open Go.RowKit Go.Sort
def nc (k:IntKind) (l:List Nat):Array Value:=(l.map fun n:Nat=>Value.int k (n:Int)).toArray
theorem nc_size (k:IntKind) (l:List Nat):(nc k l).size=l.length:=by simp [nc]
theorem nc_get (k:IntKind) (l:List Nat) (j:Nat) (h:j<l.length):(nc k l)[j]?=some (.int k ((l.getD j 0:Nat):Int)):=by simp [nc,h]
theorem nc_set (k:IntKind) (l:List Nat) (j:Nat) (x:Nat):(nc k l).setIfInBounds j (.int k (x:Int))=nc k (l.set j x):=by simp [nc,List.map_set]
theorem nc_one (k:IntKind) (l:List Nat):(nc k l).all (·.oneCell')=true:=by
 rw [Array.all_eq_true];intro i hi
 simp [nc,Value.oneCell']
theorem nc_cell {k:IntKind} {W:World} {B:Nat} {l:List Nat} {T:TypeId} {fr:Nat×Nat} (h:W.heap[B]?=some (.cells (nc k l) T fr)) (j:Nat) (hj:j<l.length):W.cell? ⟨B,j,none⟩=some (.int k ((l.getD j 0:Nat):Int)):=by rw [cell_of_row W _ _ _ _ _ h];exact nc_get k l j hj
theorem nc_heap_set {k:IntKind} {W:World} {B:Nat} {l:List Nat} {T:TypeId} (h:W.heap[B]?=some (.cells (nc k l) T)) (j:Nat) (x:Nat):(W.setCell ⟨B,j,none⟩ (.int k (x:Int))).heap[B]?=some (.cells (nc k (l.set j x)) T):=by rw [← nc_set];exact Go.heap_setCell_same _ _ _ _ _ _ h
def uc (l:List Nat):Array Value:=nc .u64 l
def zeros4:Array Value:=uc (List.replicate 4 0)
theorem infoL:(Tryz.prog.info? 59).map (fun i=>(i.zero,i.size))=some (some (.agg zeros4),4):=by kernel_rfl
theorem qaY (l:List Nat):(uc l).size=l.length:=nc_size _ l
theorem qar (l:List Nat):(uc l).all (·.oneCell')=true:=nc_one _ l
theorem qbI {W:World} {B:Nat} {l:List Nat} {T:TypeId} {fr:Nat×Nat} (h:W.heap[B]?=some (.cells (uc l) T fr)) (j:Nat) (hj:j<l.length):W.cell? ⟨B,j,none⟩=some (.int .u64 ((l.getD j 0:Nat):Int)):=nc_cell h j hj
theorem qbP {W:World} {B:Nat} {l:List Nat} {T:TypeId} (h:W.heap[B]?=some (.cells (uc l) T)) (j:Nat) (x:Nat):(W.setCell ⟨B,j,none⟩ (.int .u64 (x:Int))).heap[B]?=some (.cells (uc (l.set j x)) T):=nc_heap_set h j x
theorem qcd (l:List Nat) (h:l.length=4):(Tryz.prog.info? 59).map (·.size)=some (uc l).size:=by rw [qaY,h];exact (zero_of_info infoL).2
theorem qcw (l:List Nat) (h:l.length=4):zeros4.size=(uc l).size:=by rw [qaY,h];exact qaY _
set_option maxHeartbeats 1000000 in
theorem plusL_any (x y:Nat) (w:World) :
  Calls Tryz.prog 186 #[.agg (uc (limN 4 x)),.agg (uc (limN 4 y))] w fun e w'=>e=.returned (.agg (uc (limN 4 (x+y))))∧Below w.heap.size w w':=by
 obtain ⟨hz,hi⟩:=zero_of_info infoL;have hg0:=qaj (o:=.cells zeros4 59) (qaj (o:=.cells (uc (limN 4 y)) 59) (qag w (.cells (uc (limN 4 x)) 59)));rw [← qb5 4 x (x+y)] at hg0;have HG0:=hid hg0;have HD0:=hid (qaj (o:=.cells zeros4 59) (qaw w (.cells (uc (limN 4 x)) 59) (.cells (uc (limN 4 y)) 59)));have HR0:=hid (qbL w (.cells (uc (limN 4 x)) 59) (.cells (uc (limN 4 y)) 59) (.cells zeros4 59));have hb0:=qbr w (.cells (uc (limN 4 x)) 59) (.cells (uc (limN 4 y)) 59) (.cells zeros4 59);clear hi hg0;rw [qb5] at HG0;have HZ0:=hid (qb5 4 x (x+y))
 go_enter Tryz.func186,Tryz.ntmps186
 go_wp2_with fail
 clear hz;generalize (((w.alloc _).alloc _).alloc _)=W0 at *;generalize hBB:w.heap.size=B at *;have HBB:=hid hBB;clear hBB
 go_loopw [5,7] (fun c i wr=>∃ k:Nat,k≤4∧i=.int .i64 (k:Int)∧c=.int .u64 ((cyN x y 1 k:Nat):Int)∧wr.heap[B]?=some (.cells (uc (mixN 4 x (x+y) k)) 59)∧wr.heap[B+1]?=some (.cells (uc (limN 4 y)) 59)∧wr.heap[B+1+1]?=some (.cells zeros4 59)∧Below B w wr) (fun _ i _=>4-(intOf i).toNat)
 case atStart=>exact ⟨0,by omega,rfl,by rw [cyN_zero];rfl,by rw [HZ0.out];exact HG0.out,HD0.out,HR0.out,hb0⟩
 case round=>
  clear HG0 HD0 HR0 hb0;obtain ⟨k,hk,rfl,rfl,hg,hdd,hr,hb⟩:=hrel;have HG:=hid hg;have HD:=hid hdd;have HR:=hid hr;clear hg hr hdd
  by_cases hlt:k<4
  ·have hd:decide ((k:Int)<4)=true:=by simp;omega
   obtain ⟨s1,s2⟩:=add_step x y k;have hc1:=cyN_one x y k;have HS:=hid (qep 4 x (x+y) k hlt);have hll:=qbq 4 x (x+y) k
   have cx:=qbI HG.out k (by omega)
   have cy:=qbI HD.out k (by rw [qad];omega)
   rw [qc3 _ _ _ _ _ hlt (Nat.le_refl _)] at cx;rw [qbc _ _ _ hlt] at cy;have hcall:=add64_told (x:=dg x k) (y:=dg y k) hc1 s1 s2
   have HC2:=hid (show cyN x y 1 (k+1)=cyN x y 1 (k+1) from rfl)
   generalize hv:mixN 4 x (x+y) k=u at *;generalize dg (x+y) k=z at *;generalize dg x k=p at *;generalize dg y k=q at *;generalize hcc:cyN x y 1 (k+1)=c' at *;have HCC:=hid hcc;generalize cyN x y 1 k=c at *;clear s1 s2 hc1 HC2 hcc hv
   go_wp2_with fail
   have ka:=cell_regrown cx;have kb:=cell_regrown cy
   refine qef 10 (.tmp 6) rfl rfl rfl rfl rfl rfl rfl rfl rfl (by kernel_rfl) (by kernel_rfl) (fun _ _ _ _ h=>h) (fun _ _ _ _ h=>h) (fun _ _ _ _ h=>h) ?_
   simp only [take_succ_cons,List.take_zero,drop_succ_cons,List.drop_zero]
   repeat (first | go_big_quiet_step (fail) | quiet_step (fail))
   refine wpQuiet_nil ?_
   intro W1 hb1;have hlw:=qab HR.out
   have hG1:=qaa hb1 (by omega) HG.out
   have hD1:=qaa hb1 (by omega) HD.out
   have hR1:=qaa hb1 hlw HR.out;have fx:=frozen_of_row W1 B k _ _ hG1
   have cu:=qbI hG1 k (by omega)
   have r1:=qbP hG1 k z;rw [HS.out] at r1;have HG2:=hid r1
   have HD2:=hid (show (W1.setCell ⟨B,k,none⟩ (.int .u64 (z:Int))).heap[B+1]?=some (.cells (uc (limN 4 y)) 59) from by rw [heap_setCell_other _ _ _ _ (by simp <;> omega)];exact hD1)
   have HR2:=hid (show (W1.setCell ⟨B,k,none⟩ (.int .u64 (z:Int))).heap[B+1+1]?=some (.cells zeros4 59) from by rw [heap_setCell_other _ _ _ _ (by simp <;> omega)];exact hR1)
   have hb2:Below B w (W1.setCell ⟨B,k,none⟩ (.int .u64 (z:Int))):=(hb.trans (hb1.mono (by omega))).setCell (by simp) _
   clear r1 hb HR HG HD HS ka kb cx cy hG1 hD1 hR1 hlw hb1 hcall
   go_wp2_with fail
   go_roundw
   case rel=>exact ⟨k+1,by omega,by go_num,by rw [HCC.out],HG2.out,HD2.out,HR2.out,hb2⟩
   case measure=>simp [intOf];omega
  ·have hd:decide ((k:Int)<4)=false:=by simp;omega
   obtain rfl:k=4:=by omega
   rw [qfr _ _ _ _ (Nat.le_refl _)] at HG;have hll:=qad 4 (x+y);generalize hrow:limN 4 (x+y)=row at *;have HROW:=hid hrow;clear hrow;have HI:=hid (qcd row hll);have HO:=hid (qcw row hll);have H1:=hid (qar row);clear HZ0
   go_wp2_with (first
    | (with_reducible refine wpList_load_row rfl 59 _ rfl B rfl 59 _ (0,0) _ HG.out Tryz.underlying59 rfl HI.out ?_)
    | (with_reducible refine wpList_store_row rfl 59 _ _ rfl (B+1+1) (uc row) rfl rfl 59 _ HR.out HI.out HO.out H1.out ?_))
   exact bodyPost_ret (v:=.agg (uc row)) (results_cell_row (by rfl) _ _ (B+1+1) 59 _ (0,0) _ rfl (setRow_heap _ _ _ _ _ _ HR.out) Tryz.underlying59 rfl HI.out) rfl ⟨by first | (with_reducible rfl) | rw [HROW.out],by rw [HBB.out];exact below_setRow hb (by omega) _⟩
end
section
open Go.RowKit Go.Sort
set_option maxHeartbeats 1000000 in
theorem minusL_any (x y:Nat) (w:World) (hyx:y≤x) :
  Calls Tryz.prog 187 #[.agg (uc (limN 4 x)),.agg (uc (limN 4 y))] w fun e w'=>e=.returned (.agg (uc (limN 4 (x-y))))∧Below w.heap.size w w':=by
 obtain ⟨hz,hi⟩:=zero_of_info infoL;have hg0:=qaj (o:=.cells zeros4 59) (qaj (o:=.cells (uc (limN 4 y)) 59) (qag w (.cells (uc (limN 4 x)) 59)));rw [← qb5 4 x (x-y)] at hg0;have HG0:=hid hg0;have HD0:=hid (qaj (o:=.cells zeros4 59) (qaw w (.cells (uc (limN 4 x)) 59) (.cells (uc (limN 4 y)) 59)));have HR0:=hid (qbL w (.cells (uc (limN 4 x)) 59) (.cells (uc (limN 4 y)) 59) (.cells zeros4 59));have hb0:=qbr w (.cells (uc (limN 4 x)) 59) (.cells (uc (limN 4 y)) 59) (.cells zeros4 59);clear hi hg0;rw [qb5] at HG0;have HZ0:=hid (qb5 4 x (x-y))
 go_enter Tryz.func187,Tryz.ntmps187
 go_wp2_with fail
 clear hz;generalize (((w.alloc _).alloc _).alloc _)=W0 at *;generalize hBB:w.heap.size=B at *;have HBB:=hid hBB;clear hBB
 go_loopw [5,7] (fun c i wr=>∃ k:Nat,k≤4∧i=.int .i64 (k:Int)∧c=.int .u64 ((cyN (x-y) y 1 k:Nat):Int)∧wr.heap[B]?=some (.cells (uc (mixN 4 x (x-y) k)) 59)∧wr.heap[B+1]?=some (.cells (uc (limN 4 y)) 59)∧wr.heap[B+1+1]?=some (.cells zeros4 59)∧Below B w wr) (fun _ i _=>4-(intOf i).toNat)
 case atStart=>exact ⟨0,by omega,rfl,by rw [cyN_zero];rfl,by rw [HZ0.out];exact HG0.out,HD0.out,HR0.out,hb0⟩
 case round=>
  clear HG0 HD0 HR0 hb0;obtain ⟨k,hk,rfl,rfl,hg,hdd,hr,hb⟩:=hrel;have HG:=hid hg;have HD:=hid hdd;have HR:=hid hr;clear hg hr hdd
  by_cases hlt:k<4
  ·have hd:decide ((k:Int)<4)=true:=by simp;omega
   obtain ⟨s1,s2⟩:=sub_step x y k hyx;have hc1:=cyN_one (x-y) y k;have HS:=hid (qep 4 x (x-y) k hlt);have hll:=qbq 4 x (x-y) k
   have cx:=qbI HG.out k (by omega)
   have cy:=qbI HD.out k (by rw [qad];omega)
   rw [qc3 _ _ _ _ _ hlt (Nat.le_refl _)] at cx;rw [qbc _ _ _ hlt] at cy;have hcall:=sub64_told (x:=dg x k) (y:=dg y k) hc1 s1 s2
   have HC2:=hid (show cyN (x-y) y 1 (k+1)=cyN (x-y) y 1 (k+1) from rfl)
   generalize hv:mixN 4 x (x-y) k=u at *;generalize dg (x-y) k=z at *;generalize dg x k=p at *;generalize dg y k=q at *;generalize hcc:cyN (x-y) y 1 (k+1)=c' at *;have HCC:=hid hcc;generalize cyN (x-y) y 1 k=c at *;clear s1 s2 hc1 HC2 hcc hv
   go_wp2_with fail
   have ka:=cell_regrown cx;have kb:=cell_regrown cy
   refine qef 10 (.tmp 6) rfl rfl rfl rfl rfl rfl rfl rfl rfl (by kernel_rfl) (by kernel_rfl) (fun _ _ _ _ h=>h) (fun _ _ _ _ h=>h) (fun _ _ _ _ h=>h) ?_
   simp only [take_succ_cons,List.take_zero,drop_succ_cons,List.drop_zero]
   repeat (first | go_big_quiet_step (fail) | quiet_step (fail))
   refine wpQuiet_nil ?_
   intro W1 hb1;have hlw:=qab HR.out
   have hG1:=qaa hb1 (by omega) HG.out
   have hD1:=qaa hb1 (by omega) HD.out
   have hR1:=qaa hb1 hlw HR.out;have fx:=frozen_of_row W1 B k _ _ hG1
   have cu:=qbI hG1 k (by omega)
   have r1:=qbP hG1 k z;rw [HS.out] at r1;have HG2:=hid r1
   have HD2:=hid (show (W1.setCell ⟨B,k,none⟩ (.int .u64 (z:Int))).heap[B+1]?=some (.cells (uc (limN 4 y)) 59) from by rw [heap_setCell_other _ _ _ _ (by simp <;> omega)];exact hD1)
   have HR2:=hid (show (W1.setCell ⟨B,k,none⟩ (.int .u64 (z:Int))).heap[B+1+1]?=some (.cells zeros4 59) from by rw [heap_setCell_other _ _ _ _ (by simp <;> omega)];exact hR1)
   have hb2:Below B w (W1.setCell ⟨B,k,none⟩ (.int .u64 (z:Int))):=(hb.trans (hb1.mono (by omega))).setCell (by simp) _
   clear r1 hb HR HG HD HS ka kb cx cy hG1 hD1 hR1 hlw hb1 hcall
   go_wp2_with fail
   go_roundw
   case rel=>exact ⟨k+1,by omega,by go_num,by rw [HCC.out],HG2.out,HD2.out,HR2.out,hb2⟩
   case measure=>simp [intOf];omega
  ·have hd:decide ((k:Int)<4)=false:=by simp;omega
   obtain rfl:k=4:=by omega
   rw [qfr _ _ _ _ (Nat.le_refl _)] at HG;have hll:=qad 4 (x-y);generalize hrow:limN 4 (x-y)=row at *;have HROW:=hid hrow;clear hrow;have HI:=hid (qcd row hll);have HO:=hid (qcw row hll);have H1:=hid (qar row);clear HZ0
   go_wp2_with (first
    | (with_reducible refine wpList_load_row rfl 59 _ rfl B rfl 59 _ (0,0) _ HG.out Tryz.underlying59 rfl HI.out ?_)
    | (with_reducible refine wpList_store_row rfl 59 _ _ rfl (B+1+1) (uc row) rfl rfl 59 _ HR.out HI.out HO.out H1.out ?_))
   exact bodyPost_ret (v:=.agg (uc row)) (results_cell_row (by rfl) _ _ (B+1+1) 59 _ (0,0) _ rfl (setRow_heap _ _ _ _ _ _ HR.out) Tryz.underlying59 rfl HI.out) rfl ⟨by first | (with_reducible rfl) | rw [HROW.out],by rw [HBB.out];exact below_setRow hb (by omega) _⟩
end
section
open Go.RowKit Go.Sort
set_option maxHeartbeats 1000000 in
theorem plusW_any (x v:Nat) (w:World) :
  Calls Tryz.prog 203 #[.agg (uc (limN 4 x)),.int .u64 (v:Int)] w fun e w'=>e=.returned (.agg (uc (limN 4 (x+v))))∧Below w.heap.size w w':=by
 obtain ⟨hz,hi⟩:=zero_of_info infoL;have hg0:=qaj (o:=.cells zeros4 59) (qag w (.cells (uc (limN 4 x)) 59));rw [← qb5 4 x (x+v)] at hg0;have HG0:=hid hg0;have HR0:=hid (qaw w (.cells (uc (limN 4 x)) 59) (.cells zeros4 59));have hb0:=qaP w (.cells (uc (limN 4 x)) 59) (.cells zeros4 59);clear hi hg0;rw [qb5] at HG0;have HZ0:=hid (qb5 4 x (x+v))
 go_enter Tryz.func203,Tryz.ntmps203
 go_wp2_with fail
 clear hz;generalize ((w.alloc _).alloc _)=W0 at *;generalize hBB:w.heap.size=B at *;have HBB:=hid hBB;clear hBB
 go_loopw [1,6] (fun c i wr=>∃ k:Nat,k≤4∧i=.int .i64 (k:Int)∧c=.int .u64 ((cwN x v k:Nat):Int)∧wr.heap[B]?=some (.cells (uc (mixN 4 x (x+v) k)) 59)∧wr.heap[B+1]?=some (.cells zeros4 59)∧Below B w wr) (fun _ i _=>4-(intOf i).toNat)
 case atStart=>exact ⟨0,by omega,rfl,by rw [cwN_zero],by rw [HZ0.out];exact HG0.out,HR0.out,hb0⟩
 case round=>
  clear HG0 HR0 hb0;obtain ⟨k,hk,rfl,rfl,hg,hr,hb⟩:=hrel;have HG:=hid hg;have HR:=hid hr;clear hg hr
  by_cases hlt:k<4
  ·have hd:decide ((k:Int)<4)=true:=by simp;omega
   obtain ⟨s1,s2⟩:=cwN_step x v k;have HS:=hid (qep 4 x (x+v) k hlt);have hll:=qbq 4 x (x+v) k
   have cx:=qbI HG.out k (by omega)
   rw [qc3 _ _ _ _ _ hlt (Nat.le_refl _)] at cx;have hcall:=qf4 (x:=dg x k) (y:=cwN x v k) s1 s2
   have HC2:=hid (show cwN x v (k+1)=cwN x v (k+1) from rfl)
   generalize hv:mixN 4 x (x+v) k=u at *;generalize dg (x+v) k=z at *;generalize dg x k=p at *;generalize hcc:cwN x v (k+1)=c' at *;have HCC:=hid hcc;generalize cwN x v k=c at *;clear s1 s2 HC2 hcc hv;have fx:=frozen_of_row wr B k _ _ HG.out;have r1:=qbP HG.out k z;rw [HS.out] at r1;have HG2:=hid r1
   have HR2:=hid (show (wr.setCell ⟨B,k,none⟩ (.int .u64 (z:Int))).heap[B+1]?=some (.cells zeros4 59) from by rw [heap_setCell_other _ _ _ _ (by simp <;> omega)];exact HR.out)
   have hb2:Below B w (wr.setCell ⟨B,k,none⟩ (.int .u64 (z:Int))):=hb.setCell (by simp) _
   clear r1 hb HR HG HS
   go_wp2_with fail
   go_roundw
   case rel=>exact ⟨k+1,by omega,by go_num,by rw [HCC.out],HG2.out,HR2.out,hb2⟩
   case measure=>simp [intOf];omega
  ·have hd:decide ((k:Int)<4)=false:=by simp;omega
   obtain rfl:k=4:=by omega
   rw [qfr _ _ _ _ (Nat.le_refl _)] at HG;have hll:=qad 4 (x+v);generalize hrow:limN 4 (x+v)=row at *;have HROW:=hid hrow;clear hrow;have HI:=hid (qcd row hll);have HO:=hid (qcw row hll);have H1:=hid (qar row);clear HZ0
   go_wp2_with (first
    | (with_reducible refine wpList_load_row rfl 59 _ rfl B rfl 59 _ (0,0) _ HG.out Tryz.underlying59 rfl HI.out ?_)
    | (with_reducible refine wpList_store_row rfl 59 _ _ rfl (B+1) (uc row) rfl rfl 59 _ HR.out HI.out HO.out H1.out ?_))
   exact bodyPost_ret (v:=.agg (uc row)) (results_cell_row (by rfl) _ _ (B+1) 59 _ (0,0) _ rfl (setRow_heap _ _ _ _ _ _ HR.out) Tryz.underlying59 rfl HI.out) rfl ⟨by first | (with_reducible rfl) | rw [HROW.out],by rw [HBB.out];exact below_setRow hb (by omega) _⟩
end
section
open Go.RowKit Go.Sort
theorem qax {P:Program} {fn:Func} {p u:Tmp} {ty:TypeId} (h:fn.results=#[.cell p ty,.tmp u]) (tmps:Array Value) (w:World) (g:Nat) (t:TypeId) (cs:Array Value) (fr:Nat×Nat) (d:TypeDesc)
  (hp:tmps.getD p undef=.pointer (some ⟨g,0,none⟩)) (hg:w.heap[g]?=some (.cells cs t fr))
  (hu:P.underlying ty=some d) (hd:(match d with | .struct _ | .array _ _=>true | _=>false)=true) (hi:(P.info? ty).map (·.size)=some cs.size) :
  (results fn tmps).run P w=.ok (.tuple #[.agg cs,tmps.getD u undef]) w:=by
 rw [results_cell_tmp h,hp]
 simp [asAddr,run_loadVar_row w g t ty cs fr d hg hu hd hi,Result.andThen]
set_option maxHeartbeats 1000000 in
theorem plusT_any (x y v:Nat) (w:World) (hv:v≤18446744073709551615) :
  Calls Tryz.prog 162 #[.agg (uc (limN 4 x)),.agg (uc (limN 4 y)),.int .u64 (v:Int)] w fun e w'=>e=.returned (.tuple #[.agg (uc (limN 4 (x+y*v))),.int .u64 ((cyN x y v 4:Nat):Int)])∧Below w.heap.size w w':=by
 obtain ⟨hz,hi⟩:=zero_of_info infoL;have hg0:=qaj (o:=.cells zeros4 59) (qaj (o:=.cells (uc (limN 4 y)) 59) (qag w (.cells (uc (limN 4 x)) 59)));rw [← qb5 4 x (x+y*v)] at hg0;have HG0:=hid hg0;have HD0:=hid (qaj (o:=.cells zeros4 59) (qaw w (.cells (uc (limN 4 x)) 59) (.cells (uc (limN 4 y)) 59)));have HR0:=hid (qbL w (.cells (uc (limN 4 x)) 59) (.cells (uc (limN 4 y)) 59) (.cells zeros4 59));have hb0:=qbr w (.cells (uc (limN 4 x)) 59) (.cells (uc (limN 4 y)) 59) (.cells zeros4 59);clear hi hg0;rw [qb5] at HG0;have HZ0:=hid (qb5 4 x (x+y*v))
 go_enter Tryz.func162,Tryz.ntmps162
 go_wp2_with fail
 clear hz;generalize (((w.alloc _).alloc _).alloc _)=W0 at *;generalize hBB:w.heap.size=B at *;have HBB:=hid hBB;clear hBB
 go_loopw [8,10] (fun c i wr=>∃ k:Nat,k≤4∧i=.int .i64 (k:Int)∧c=.int .u64 ((cyN x y v k:Nat):Int)∧wr.heap[B]?=some (.cells (uc (mixN 4 x (x+y*v) k)) 59)∧wr.heap[B+1]?=some (.cells (uc (limN 4 y)) 59)∧wr.heap[B+1+1]?=some (.cells zeros4 59)∧Below B w wr) (fun _ i _=>4-(intOf i).toNat)
 case atStart=>exact ⟨0,by omega,rfl,by rw [cyN_zero];rfl,by rw [HZ0.out];exact HG0.out,HD0.out,HR0.out,hb0⟩
 case round=>
  clear HG0 HD0 HR0 hb0;obtain ⟨k,hk,rfl,rfl,hg,hdd,hr,hb⟩:=hrel;have HG:=hid hg;have HD:=hid hdd;have HR:=hid hr;clear hg hr hdd
  by_cases hlt:k<4
  ·have hd:decide ((k:Int)<4)=true:=by simp;omega
   obtain ⟨s1,s2⟩:=cyN_step x y v k;have p1:=dg_lt x k;have p2:=dg_lt y k;have p3:=cyN_lt x y v k hv
   rw [show cyN x y v k+(dg x k+dg y k*v)=dg x k+cyN x y v k+dg y k*v by rw [← Nat.add_assoc,Nat.add_comm (cyN x y v k)]] at s1 s2
   have HS:=hid (qep 4 x (x+y*v) k hlt);have hll:=qbq 4 x (x+y*v) k
   have cx:=qbI HG.out k (by omega)
   have cy:=qbI HD.out k (by rw [qad];omega)
   rw [qc3 _ _ _ _ _ hlt (Nat.le_refl _)] at cx;rw [qbc _ _ _ hlt] at cy
   have HC:=hid (fun W=>(sumProd_any (dg x k) (cyN x y v k) (dg y k) v _ _ W p1 p3 p2 (by omega) s1 s2).mono fun e W' h=>(⟨h.1,h.2▸Below.refl _ _⟩:_∧Below W.heap.size W W'))
   have HC2:=hid (show cyN x y v (k+1)=cyN x y v (k+1) from rfl)
   generalize hv:mixN 4 x (x+y*v) k=u at *;generalize dg (x+y*v) k=z at *;generalize dg x k=p at *;generalize dg y k=q at *;generalize hcc:cyN x y v (k+1)=c' at *;have HCC:=hid hcc;generalize cyN x y v k=c at *;clear s1 s2 p1 p2 p3 HC2 hcc hv
   go_wp2_with fail
   have ka:=cell_regrown cx;have kb:=cell_regrown cy
   refine qef 11 (.tmp 9) rfl rfl rfl rfl rfl rfl rfl rfl rfl (by kernel_rfl) (by kernel_rfl) (fun _ _ _ _ h=>h) (fun _ _ _ _ h=>h) (fun _ _ _ _ h=>h) ?_
   simp only [take_succ_cons,List.take_zero,drop_succ_cons,List.drop_zero]
   repeat (first | go_big_quiet_step (exact Calls.regrown_of (HC.out _)) | quiet_step (exact Calls.regrown_of (HC.out _)))
   refine wpQuiet_nil ?_
   intro W1 hb1;have hlw:=qab HR.out
   have hG1:=qaa hb1 (by omega) HG.out
   have hD1:=qaa hb1 (by omega) HD.out
   have hR1:=qaa hb1 hlw HR.out;have fx:=frozen_of_row W1 B k _ _ hG1
   have cu:=qbI hG1 k (by omega)
   have r1:=qbP hG1 k z;rw [HS.out] at r1;have HG2:=hid r1
   have HD2:=hid (show (W1.setCell ⟨B,k,none⟩ (.int .u64 (z:Int))).heap[B+1]?=some (.cells (uc (limN 4 y)) 59) from by rw [heap_setCell_other _ _ _ _ (by simp <;> omega)];exact hD1)
   have HR2:=hid (show (W1.setCell ⟨B,k,none⟩ (.int .u64 (z:Int))).heap[B+1+1]?=some (.cells zeros4 59) from by rw [heap_setCell_other _ _ _ _ (by simp <;> omega)];exact hR1)
   have hb2:Below B w (W1.setCell ⟨B,k,none⟩ (.int .u64 (z:Int))):=(hb.trans (hb1.mono (by omega))).setCell (by simp) _
   clear r1 hb HR HG HD HS ka kb cx cy hG1 hD1 hR1 hlw hb1 HC
   go_wp2_with fail
   go_roundw
   case rel=>exact ⟨k+1,by omega,by go_num,by rw [HCC.out],HG2.out,HD2.out,HR2.out,hb2⟩
   case measure=>simp [intOf];omega
  ·have hd:decide ((k:Int)<4)=false:=by simp;omega
   obtain rfl:k=4:=by omega
   rw [qfr _ _ _ _ (Nat.le_refl _)] at HG;have hll:=qad 4 (x+y*v);generalize hrow:limN 4 (x+y*v)=row at *;have HROW:=hid hrow;generalize hcv:cyN x y v 4=cv at *;have HCV:=hid hcv;clear hcv;clear hrow;have HI:=hid (qcd row hll);have HO:=hid (qcw row hll);have H1:=hid (qar row);clear HZ0
   go_wp2_with (first
    | (with_reducible refine wpList_load_row rfl 59 _ rfl B rfl 59 _ (0,0) _ HG.out Tryz.underlying59 rfl HI.out ?_)
    | (with_reducible refine wpList_store_row rfl 59 _ _ rfl (B+1+1) (uc row) rfl rfl 59 _ HR.out HI.out HO.out H1.out ?_))
   exact bodyPost_ret (qax (by rfl) _ _ (B+1+1) 59 _ (0,0) _ rfl (setRow_heap _ _ _ _ _ _ HR.out) Tryz.underlying59 rfl HI.out) rfl ⟨by rw [HROW.out,HCV.out];rfl,by rw [HBB.out];exact below_setRow hb (by omega) _⟩
end
section
open Go.RowKit Go.Sort
def qeF:Array Value:=uc (List.replicate 8 0)
theorem infoL8:(Tryz.prog.info? 175).map (fun i=>(i.zero,i.size))=some (some (.agg qeF),8):=by kernel_rfl
theorem zeros8_row (x y:Nat):qeF=uc (limN 8 (rowW x y 0)):=by rw [rowW_zero];rfl
theorem blk_new5 (w:World) (P R A D E:Obj):(((((w.alloc P).alloc R).alloc A).alloc D).alloc E).heap[w.heap.size+1+1+1+1]?=some E:=by
 have:=qag ((((w.alloc P).alloc R).alloc A).alloc D) E
 simpa using this
theorem blkF_new4 (w:World) (P R A D:Obj):((((w.alloc P).alloc R).alloc A).alloc D).heap[w.heap.size+1+1+1]?=some D:=by
 have:=qag (((w.alloc P).alloc R).alloc A) D
 simpa using this
theorem below_new5 (w:World) (P R A D E:Obj):Below w.heap.size w (((((w.alloc P).alloc R).alloc A).alloc D).alloc E):=((qbr w P R A).alloc (by simp;omega) _).alloc (by simp;omega) _
theorem qf5 (x j:Nat) (hj:j<4) (w:World):(Instr.index 59 (.agg (uc (limN 4 x))) (.int .i64 (j:Int))).run Tryz.prog w=.ok (.int .u64 ((dg x j:Nat):Int)) w:=by
 refine arr_index 59 57 4 j (uc (limN 4 x)) _ Tryz.underlying59 (by kernel_rfl) (fun w=>?_) hj ?_ w
 ·unfold isAgg
  rw [Sem.run_bind,run_underlying Tryz.underlying57 w]
  rfl
 ·rw [uc,nc_get _ _ _ (by rw [qad];exact hj),qbc _ _ _ hj]
theorem cyR_lt (x y i j:Nat):cyR x y i j<18446744073709551616:=cyN_lt _ _ _ _ (by have:=dg_lt y i;omega)
theorem copy_words (V:World) (g b o c:Nat) (u m:List Nat) (hm:m.length=4) (hu:o+4≤u.length) (hj:∀ j,j<4→u.getD (o+j) 0=m.getD j 0) (hg:V.heap[g]?=some (.cells zeros4 59)) (hb:V.heap[b]?=some (.cells (uc u) 175)) :
  (Builtin.copy_ #[97, 97] 3 #[.slice (some ⟨g,0,none⟩) 4 4,.slice (some ⟨b,o,none⟩) 4 c]).run Tryz.prog V=.ok (.int .i64 4) (V.setRow g (uc m)):=by
 have h:=run_copy_row (P:=Tryz.prog) V 97 97 3 57 g 0 4 4 ⟨b,o,none⟩ 4 c zeros4 59 (m.map fun n:Nat=>Value.int .u64 (n:Int)) Tryz.underlying97 (by kernel_rfl) hg (by simp [hm]) (fun j v hv=>by
   have hj4:j<4:=by
    have:=(List.getElem?_eq_some_iff.1 hv).1
    simpa [hm] using this
   have hv':v=.int .u64 ((m.getD j 0:Nat):Int):=by
    rw [List.getElem?_map,List.getElem?_eq_getElem (by omega)] at hv
    rw [List.getD_eq_getElem?_getD,List.getElem?_eq_getElem (by omega)]
    simpa using hv.symm
   rw [Addr.add_lit,hv',← hj j hj4]
   exact qbI hb (o+j) (by omega)) (by rw [show zeros4.size=4 from qaY _];simp [hm]) (fun v hv=>by
   obtain ⟨n,_,rfl⟩:=List.mem_map.1 hv
   rfl)
 rw [h]
 have e1:zeros4.toList.drop (0+(m.map fun n:Nat=>Value.int .u64 (n:Int)).length)=[]:=List.drop_of_length_le (by rw [Array.length_toList,show zeros4.size=4 from qaY _];simp [hm])
 rw [e1,List.take_zero,List.nil_append,List.append_nil]
 simp only [goInt,List.length_map,hm]
 rfl
theorem sliced_low8 (a:Nat) (w:World):(Instr.sliceAt 175 (.pointer (some ⟨a,0,none⟩)) none (some (.int .i64 4)) none).run Tryz.prog w=.ok (.slice (some ⟨a,0,none⟩) 4 8) w:=by
 rw [run_sliceAt_array_h w 175 ⟨a,0,none⟩ (by kernel_rfl) .i64 4 (by omega) (by rw [show Tryz.prog.arrayLen 175=8 from by kernel_rfl];omega),qfW (by kernel_rfl)]
 rfl
theorem sliced_high8 (a:Nat) (w:World):(Instr.sliceAt 175 (.pointer (some ⟨a,0,none⟩)) (some (.int .i64 4)) none none).run Tryz.prog w=.ok (.slice (some ⟨a,4,none⟩) 4 4) w:=by
 rw [run_sliceAt_array_l w 175 ⟨a,0,none⟩ (by kernel_rfl) .i64 4 (by omega) (by rw [show Tryz.prog.arrayLen 175=8 from by kernel_rfl];omega),qfW (by kernel_rfl)]
 rfl
set_option maxHeartbeats 2000000 in
theorem timesL_any (x y:Nat) (w:World) (hx:x<bw 4) (hy:y<bw 4) :
  Calls Tryz.prog 160 #[.agg (uc (limN 4 x)),.agg (uc (limN 4 y))] w fun e w'=>e=.returned (.tuple #[.agg (uc (limN 4 (x*y%mF))),.agg (uc (limN 4 (x*y / mF)))])∧Below w.heap.size w w':=by
 obtain ⟨hz,hi⟩:=zero_of_info infoL;obtain ⟨hz8,hi8⟩:=zero_of_info infoL8;have HX:=hid hx;have HY:=hid hy;have HG0:=hid (qaj (o:=.cells qeF 175) (qaj (o:=.cells zeros4 59) (qaj (o:=.cells zeros4 59) (qaj (o:=.cells (uc (limN 4 y)) 59) (qag w (.cells (uc (limN 4 x)) 59))))));have HD0:=hid (qaj (o:=.cells qeF 175) (qaj (o:=.cells zeros4 59) (qaj (o:=.cells zeros4 59) (qaw w (.cells (uc (limN 4 x)) 59) (.cells (uc (limN 4 y)) 59)))));have HR0:=hid (qaj (o:=.cells qeF 175) (qaj (o:=.cells zeros4 59) (qbL w (.cells (uc (limN 4 x)) 59) (.cells (uc (limN 4 y)) 59) (.cells zeros4 59))));have HS0:=hid (qaj (o:=.cells qeF 175) (blkF_new4 w (.cells (uc (limN 4 x)) 59) (.cells (uc (limN 4 y)) 59) (.cells zeros4 59) (.cells zeros4 59)));have HW0:=hid (blk_new5 w (.cells (uc (limN 4 x)) 59) (.cells (uc (limN 4 y)) 59) (.cells zeros4 59) (.cells zeros4 59) (.cells qeF 175))
 have hb0:=below_new5 w (.cells (uc (limN 4 x)) 59) (.cells (uc (limN 4 y)) 59) (.cells zeros4 59) (.cells zeros4 59) (.cells qeF 175);have HIx:=hid (qcd (limN 4 x) (qad _ _));have HIy:=hid (qcd (limN 4 y) (qad _ _));have HZ8:=hid (zeros8_row x y);clear hi hi8 hx hy
 go_enter Tryz.func160,Tryz.ntmps160
 go_wp2_with (with_reducible refine wpList_load_row rfl 59 _ rfl (w.heap.size+1) rfl 59 _ (0,0) _ HD0.out Tryz.underlying59 rfl HIy.out ?_)
 clear hz8;generalize (((((w.alloc _).alloc _).alloc _).alloc _).alloc _)=W0 at *;generalize hBB:w.heap.size=B at *;have HBB:=hid hBB;clear hBB
 go_loopw [15] (fun iv wr=>∃ i:Nat,i≤4∧iv=.int .i64 (i:Int)∧wr.heap[B]?=some (.cells (uc (limN 4 x)) 59)∧wr.heap[B+1]?=some (.cells (uc (limN 4 y)) 59)∧wr.heap[B+1+1]?=some (.cells zeros4 59)∧wr.heap[B+1+1+1]?=some (.cells zeros4 59)∧wr.heap[B+1+1+1+1]?=some (.cells (uc (limN 8 (rowW x y i))) 175)∧Below B w wr) (fun iv _=>4-(intOf iv).toNat)
 case atStart=>exact ⟨0,by omega,rfl,HG0.out,HD0.out,HR0.out,HS0.out,by rw [← HZ8.out];exact HW0.out,hb0⟩
 case round=>
  clear HG0 HD0 HR0 HS0 HW0 hb0;obtain ⟨i,hi,rfl,hg,hdd,hr,hs,hww,hb⟩:=hrel;have HG:=hid hg;have HD:=hid hdd;have HR:=hid hr;have HS:=hid hs;have HO:=hid hww;clear hg hr hdd hww hs
  by_cases hlt:i<4
  ·have hd:decide ((i:Int)<4)=true:=by simp;omega
   have ix:=qf5 y i hlt
   go_wp2_with (with_reducible refine wpList_load_row rfl 59 _ rfl B rfl 59 _ (0,0) _ HG.out Tryz.underlying59 rfl HIx.out ?_)
   clear ix
   go_loopw [9,20] (fun cv jv wr=>∃ j:Nat,j≤4∧jv=.int .i64 (j:Int)∧cv=.int .u64 ((cyR x y i j:Nat):Int)∧wr.heap[B]?=some (.cells (uc (limN 4 x)) 59)∧wr.heap[B+1]?=some (.cells (uc (limN 4 y)) 59)∧wr.heap[B+1+1]?=some (.cells zeros4 59)∧wr.heap[B+1+1+1]?=some (.cells zeros4 59)∧wr.heap[B+1+1+1+1]?=some (.cells (uc (mixN 8 (rowW x y i) (rowW x y (i+1)) (i+j))) 175)∧Below B w wr) (fun _ jv _=>4-(intOf jv).toNat)
   case atStart=>exact ⟨0,by omega,rfl,by rw [cyR,cyN_zero];rfl,HG.out,HD.out,HR.out,HS.out,by rw [show mixN 8 (rowW x y i) (rowW x y (i+1)) (i+0)=limN 8 (rowW x y i) from row_begin 8 x y i];exact HO.out,hb⟩
   case round=>
    clear HG HD HR HS HO hb;obtain ⟨j,hj,rfl,rfl,hg,hdd,hr,hs,hww,hb⟩:=hrel;have HG:=hid hg;have HD:=hid hdd;have HR:=hid hr;have HS:=hid hs;have HO:=hid hww;clear hg hr hdd hww hs
    by_cases hjlt:j<4
    ·have hdj:decide ((j:Int)<4)=true:=by simp;omega
     have ix:=qf5 x j hjlt;obtain ⟨s1,s2⟩:=row_step x y i j;have HC:=hid (sumProd_any (dg (rowW x y i) (i+j)) (cyR x y i j) (dg x j) (dg y i) _ _ wr (dg_lt _ _) (cyR_lt _ _ _ _) (dg_lt _ _) (dg_lt _ _) s1 s2)
     have cz:=qbI HO.out (i+j) (by rw [qbq];omega)
     rw [qc3 _ _ _ _ _ (by omega) (Nat.le_refl _)] at cz
     have r1:=qbP HO.out (i+j) (dg (rowW x y (i+1)) (i+j))
     rw [qep _ _ _ _ (by omega)] at r1
     have fx:=frozen_of_row wr (B+1+1+1+1) (i+j) _ _ HO.out
     have hij:((i:Int)+(j:Int)).toNat=i+j:=by omega
     have hll:=qbq 8 (rowW x y i) (rowW x y (i+1)) (i+j);generalize dg (rowW x y (i+1)) (i+j)=z at *;have HO2:=hid r1
     have HG2:=hid (show (wr.setCell ⟨B+1+1+1+1,i+j,none⟩ (.int .u64 (z:Int))).heap[B]?=some (.cells (uc (limN 4 x)) 59) from by rw [heap_setCell_other _ _ _ _ (by simp <;> omega)];exact HG.out)
     have HD2:=hid (show (wr.setCell ⟨B+1+1+1+1,i+j,none⟩ (.int .u64 (z:Int))).heap[B+1]?=some (.cells (uc (limN 4 y)) 59) from by rw [heap_setCell_other _ _ _ _ (by simp <;> omega)];exact HD.out)
     have HR2:=hid (show (wr.setCell ⟨B+1+1+1+1,i+j,none⟩ (.int .u64 (z:Int))).heap[B+1+1]?=some (.cells zeros4 59) from by rw [heap_setCell_other _ _ _ _ (by simp <;> omega)];exact HR.out)
     have HS2:=hid (show (wr.setCell ⟨B+1+1+1+1,i+j,none⟩ (.int .u64 (z:Int))).heap[B+1+1+1]?=some (.cells zeros4 59) from by rw [heap_setCell_other _ _ _ _ (by simp <;> omega)];exact HS.out)
     have hb2:Below B w (wr.setCell ⟨B+1+1+1+1,i+j,none⟩ (.int .u64 (z:Int))):=hb.setCell (by simp;omega) _
     generalize dg (rowW x y i) (i+j)=p at *;generalize mixN 8 (rowW x y i) (rowW x y (i+1)) (i+j)=u at *;generalize cyR x y i j=c at *;generalize hcc:cyR x y i (j+1)=c' at *;have HCC:=hid hcc;generalize dg x j=q at *;clear r1 HG HD HR HS hb s1 s2 hcc
     go_wp2_with fail
     clear ix
     refine HC.out.mono ?_
     rintro e W1 ⟨rfl,rfl⟩
     go_wp2_with fail
     go_roundw
     case rel=>exact ⟨j+1,by omega,by go_num,by rw [HCC.out],HG2.out,HD2.out,HR2.out,HS2.out,by rw [← Nat.add_assoc];exact HO2.out,hb2⟩
     case measure=>simp [intOf];omega
    ·have hdj:decide ((j:Int)<4)=false:=by simp;omega
     obtain rfl:j=4:=by omega
     have hij:((i:Int)+4).toNat=i+4:=by omega
     rw [row_last x y i HX.out];have r1:=qbP HO.out (i+4) (dg (rowW x y (i+1)) (i+4))
     rw [qep _ _ _ _ (by omega),show i+4+1=i+5 from rfl,row_end _ _ _ _ HX.out] at r1
     have cz:=qbI HO.out (i+4) (by rw [qbq];omega)
     have fx:=frozen_of_row wr (B+1+1+1+1) (i+4) _ _ HO.out;have hll:=qbq 8 (rowW x y i) (rowW x y (i+1)) (i+4);generalize dg (rowW x y (i+1)) (i+4)=z at *;have HO2:=hid r1
     have HG2:=hid (show (wr.setCell ⟨B+1+1+1+1,i+4,none⟩ (.int .u64 (z:Int))).heap[B]?=some (.cells (uc (limN 4 x)) 59) from by rw [heap_setCell_other _ _ _ _ (by simp <;> omega)];exact HG.out)
     have HD2:=hid (show (wr.setCell ⟨B+1+1+1+1,i+4,none⟩ (.int .u64 (z:Int))).heap[B+1]?=some (.cells (uc (limN 4 y)) 59) from by rw [heap_setCell_other _ _ _ _ (by simp <;> omega)];exact HD.out)
     have HR2:=hid (show (wr.setCell ⟨B+1+1+1+1,i+4,none⟩ (.int .u64 (z:Int))).heap[B+1+1]?=some (.cells zeros4 59) from by rw [heap_setCell_other _ _ _ _ (by simp <;> omega)];exact HR.out)
     have HS2:=hid (show (wr.setCell ⟨B+1+1+1+1,i+4,none⟩ (.int .u64 (z:Int))).heap[B+1+1+1]?=some (.cells zeros4 59) from by rw [heap_setCell_other _ _ _ _ (by simp <;> omega)];exact HS.out)
     have hb2:Below B w (wr.setCell ⟨B+1+1+1+1,i+4,none⟩ (.int .u64 (z:Int))):=hb.setCell (by simp;omega) _
     generalize mixN 8 (rowW x y i) (rowW x y (i+1)) (i+4)=u at *;clear r1 HG HD HR HS hb
     go_wp2_with fail
     go_roundw
     case rel=>exact ⟨i+1,by omega,by go_num,HG2.out,HD2.out,HR2.out,HS2.out,HO2.out,hb2⟩
     case measure=>simp [intOf];omega
  ·have hd:decide ((i:Int)<4)=false:=by simp;omega
   obtain rfl:i=4:=by omega
   rw [rowW_last x y HY.out,limN_halves] at HO;clear HX HY HZ8
   go_wp2_with fail
   have hlw:=qab HO.out;have hm0:=qad 4 (x*y%mF);have hm1:=qad 4 (x*y / mF);generalize hlo:limN 4 (x*y%mF)=lo at *;generalize hhi:limN 4 (x*y / mF)=hi at *;have HLO:=hid hlo;have HHI:=hid hhi;clear hlo hhi HG HD;have HV1:=hid (qaj (o:=.cells zeros4 59) (qag wr (.cells zeros4 59)));have HV2:=hid (qaw wr (.cells zeros4 59) (.cells zeros4 59));have hb1:Below wr.heap.size wr ((wr.alloc (.cells zeros4 59)).alloc (.cells zeros4 59)):=qaP wr (.cells zeros4 59) (.cells zeros4 59);have HO1:=hid (qaa hb1 hlw HO.out)
   have HR1:=hid (qaa hb1 (by omega) HR.out)
   have HS1:=hid (qaa hb1 (by omega) HS.out)
   have hb2:Below B w ((wr.alloc (.cells zeros4 59)).alloc (.cells zeros4 59)):=hb.trans (hb1.mono (by omega))
   clear HO HR HS hb hb1 hz;generalize ((wr.alloc _).alloc _)=V0 at *;generalize wr.heap.size=S at *
   have sl:=qcQ 59 4 S (by kernel_rfl) (by kernel_rfl) (by kernel_rfl) (by omega)
   have sh:=sliced_low8 (B+1+1+1+1)
   refine qap 2 (by kernel_rfl) (by kernel_rfl) ?_
   simp only [take_succ_cons,List.take_zero,drop_succ_cons,List.drop_zero]
   repeat (first | go_big_quiet_step (fail) | quiet_step (fail))
   refine wpQuiet_nil ?_
   intro V1 hv1;have hq0:=qab HV2.out
   have HVa:=hid (qaa hv1 (by omega) HV1.out)
   have HVb:=hid (qaa hv1 hq0 HV2.out);have HO2:=hid (qaa hv1 (qab HO1.out) HO1.out);have HR2:=hid (qaa hv1 (qab HR1.out) HR1.out);have HS2:=hid (qaa hv1 (qab HS1.out) HS1.out)
   have hb3:Below B w V1:=hb2.trans (hv1.mono (by have:=qab HO1.out;omega))
   have hcp:=copy_words V1 S (B+1+1+1+1) 0 8 (lo++hi) lo hm0 (by simp [hm0,hm1]) (fun j hj=>by rw [Nat.zero_add,List.getD_eq_getElem?_getD,List.getElem?_append_left (by omega),← List.getD_eq_getElem?_getD]) HVa.out HO2.out
   clear HV1 HV2 HO1 HR1 HS1 hb2 hq0
   go_wp2_with fail
   clear hcp sh sl hv1;have HA:=hid (setRow_heap V1 S zeros4 (uc lo) _ _ HVa.out)
   have HVc:=hid (show (V1.setRow S (uc lo)).heap[S+1]?=some (.cells zeros4 59) from by rw [setRow_other _ _ _ _ (by omega)];exact HVb.out)
   have HO3:=hid (show (V1.setRow S (uc lo)).heap[B+1+1+1+1]?=some (.cells (uc (lo++hi)) 175) from by rw [setRow_other _ _ _ _ (by omega)];exact HO2.out)
   have HR3:=hid (show (V1.setRow S (uc lo)).heap[B+1+1]?=some (.cells zeros4 59) from by rw [setRow_other _ _ _ _ (by omega)];exact HR2.out)
   have HS3:=hid (show (V1.setRow S (uc lo)).heap[B+1+1+1]?=some (.cells zeros4 59) from by rw [setRow_other _ _ _ _ (by omega)];exact HS2.out)
   have hb4:Below B w (V1.setRow S (uc lo)):=below_setRow hb3 (by omega) _
   clear HVa HVb HO2 HR2 HS2 hb3;generalize V1.setRow S (uc lo)=V2 at *
   have sl:=qcQ 59 4 (S+1) (by kernel_rfl) (by kernel_rfl) (by kernel_rfl) (by omega)
   have sh:=sliced_high8 (B+1+1+1+1)
   refine qap 2 (by kernel_rfl) (by kernel_rfl) ?_
   simp only [take_succ_cons,List.take_zero,drop_succ_cons,List.drop_zero]
   repeat (first | go_big_quiet_step (fail) | quiet_step (fail))
   refine wpQuiet_nil ?_
   intro V3 hv3;have HA3:=hid (qaa hv3 (qab HA.out) HA.out);have HVd:=hid (qaa hv3 (qab HVc.out) HVc.out);have HO4:=hid (qaa hv3 (qab HO3.out) HO3.out);have HR4:=hid (qaa hv3 (qab HR3.out) HR3.out);have HS4:=hid (qaa hv3 (qab HS3.out) HS3.out)
   have hb5:Below B w V3:=hb4.trans (hv3.mono (by have:=qab HO3.out;omega))
   have hcp:=copy_words V3 (S+1) (B+1+1+1+1) 4 4 (lo++hi) hi hm1 (by simp [hm0,hm1]) (fun j hj=>by rw [List.getD_eq_getElem?_getD,List.getElem?_append_right (by omega),hm0,Nat.add_sub_cancel_left,← List.getD_eq_getElem?_getD]) HVd.out HO4.out
   clear HA HVc HO3 HR3 HS3 hb4
   go_wp2_with fail
   clear hcp sh sl hv3;have HB:=hid (setRow_heap V3 (S+1) zeros4 (uc hi) _ _ HVd.out)
   have HA5:=hid (show (V3.setRow (S+1) (uc hi)).heap[S]?=some (.cells (uc lo) 59) from by rw [setRow_other _ _ _ _ (by omega)];exact HA3.out)
   have HR5:=hid (show (V3.setRow (S+1) (uc hi)).heap[B+1+1]?=some (.cells zeros4 59) from by rw [setRow_other _ _ _ _ (by omega)];exact HR4.out)
   have HS5:=hid (show (V3.setRow (S+1) (uc hi)).heap[B+1+1+1]?=some (.cells zeros4 59) from by rw [setRow_other _ _ _ _ (by omega)];exact HS4.out)
   have hb6:Below B w (V3.setRow (S+1) (uc hi)):=below_setRow hb5 (by omega) _
   clear HVd HO4 HA3 HR4 HS4 hb5;generalize V3.setRow (S+1) (uc hi)=V4 at *;have HI0:=hid (qcd lo hm0);have HI1:=hid (qcd hi hm1);have HZ0:=hid (qcw lo hm0);have HZ1:=hid (qcw hi hm1);have H0:=hid (qar lo);have H1:=hid (qar hi)
   refine wp_region_rows2 (d0:=52) (d1:=53) (by kernel_rfl) (by kernel_rfl) rfl rfl rfl rfl rfl rfl rfl rfl rfl rfl rfl rfl (by decide) S (S+1) (B+1+1) (B+1+1+1) (uc lo) (uc hi) zeros4 zeros4 59 59 59 59 _ HA5.out HB.out HR5.out HS5.out (by omega) (by omega) Tryz.underlying59 rfl HI0.out HI1.out HZ0.out HZ1.out H0.out H1.out rfl rfl rfl rfl rfl rfl rfl rfl rfl rfl ?_
   intro V5 hv5 hh5
   have HR6:V5.heap[B+1+1]?=some (.cells zeros4 59):=by rw [hh5];exact HR5.out
   have HS6:V5.heap[B+1+1+1]?=some (.cells zeros4 59):=by rw [hh5];exact HS5.out
   have hb7:Below B w V5:=hb6.trans (hv5.mono (by have:=qab HS5.out;omega))
   have HS7:(V5.setRow (B+1+1) (uc lo)).heap[B+1+1+1]?=some (.cells zeros4 59):=by rw [setRow_other _ _ _ _ (by omega)];exact HS6
   have HR7:((V5.setRow (B+1+1) (uc lo)).setRow (B+1+1+1) (uc hi)).heap[B+1+1]?=some (.cells (uc lo) 59):=by rw [setRow_other _ _ _ _ (by omega)];exact setRow_heap _ _ _ _ _ _ HR6
   have HS8:=setRow_heap _ (B+1+1+1) _ (uc hi) _ _ HS7
   have hb8:=below_setRow (below_setRow hb7 (show B≤B+1+1 by omega) (uc lo)) (show B≤B+1+1+1 by omega) (uc hi)
   go_wp2_with fail
   exact bodyPost_ret (results_rows2 (by rfl) _ _ (B+1+1) (B+1+1+1) 59 59 _ _ _ _ rfl HR7 Tryz.underlying59 rfl HI0.out rfl HS8 Tryz.underlying59 rfl HI1.out) rfl ⟨by rw [HLO.out,HHI.out],by rw [HBB.out];exact hb8⟩
end
section
open Go.RowKit Go.Sort
theorem qbO:(Tryz.prog.info? 61).map (fun i=>(i.zero,i.size))=some (some (.agg zeros4),4):=by kernel_rfl
theorem sizeF (l:List Nat) (h:l.length=4):(Tryz.prog.info? 61).map (·.size)=some (uc l).size:=by rw [qaY,h];exact (zero_of_info qbO).2
theorem list4 (l:List Nat) (h:l.length=4):∃ a b c d,l=[a,b,c,d]:=by
 match l,h with
 | [a,b,c,d],_=>exact ⟨a,b,c,d,rfl⟩
theorem build_num (l:List Nat) (h:l.length=4) (w:World):(Instr.build 61 #[(0,.agg (uc l))]).run Tryz.prog w=.ok (.agg (uc l)) w:=by
 obtain ⟨a,b,c,d,rfl⟩:=list4 l h
 exact run_build w 61 _ _ (by kernel_rfl)
theorem build_zero (w:World):(Instr.build 61 #[]).run Tryz.prog w=.ok (.agg zeros4) w:=run_build w 61 _ _ (by kernel_rfl)
theorem build_one (x:Nat) (h:x<18446744073709551616) (w:World):(Instr.build 59 #[(0,.int .u64 (x:Int))]).run Tryz.prog w=.ok (.agg (uc (limN 4 x))) w:=by
 have e:limN 4 x=[x,0,0,0]:=qbG (qad ..) rfl fun i hi=>by
  rw [qbc _ _ _ hi]
  rcases (show i=0∨i=1∨i=2∨i=3 by omega) with rfl | rfl | rfl | rfl
  ·rw [dg,show bw 0=1 from rfl,Nat.div_one,Nat.mod_eq_of_lt h];rfl
  ·rw [qdq _ 1 _ (by rw [show bw 1=18446744073709551616 from rfl];exact h) (by omega)];rfl
  ·rw [qdq _ 1 _ (by rw [show bw 1=18446744073709551616 from rfl];exact h) (by omega)];rfl
  ·rw [qdq _ 1 _ (by rw [show bw 1=18446744073709551616 from rfl];exact h) (by omega)];rfl
 rw [e]
 exact run_build w 59 _ _ (by kernel_rfl)
theorem qdJ {P:Program} {o:Oper} {a:Act} {w:World} {K:Act→World→Prop} {Q:Exit→Act→World→Prop} (t:TypeId) (parts:Array (Nat×Operand)) (ho:o.op=.build t parts) (cells:Array Value)
  (hb:(Instr.build t (parts.map fun (i,x)=>(i,a.eval x))).run P w=.ok (.agg cells) w) (h:K (a.put o.dst (.agg cells)) w):o.wp P a w K Q:=by
 unfold Oper.wp execOp
 simp only [ho,Sem.run_bind,hb,Result.andThen_ok]
 exact h
theorem qe9 {ops:Array Oper} {rest:List Oper} {o:Oper} {a:Act} {w:World} {Q:Exit→Act→World→Prop} (hg:o.guard=none) (x:Operand) (ho:o.op=.build 61 #[(0,x)]) (l:List Nat) (hl:l.length=4) (hx:a.eval x=.agg (uc l))
  (h:wpList Tryz.prog ops Q rest (a.put o.dst (.agg (uc l))) w):wpList Tryz.prog ops Q (o :: rest) a w:=
 wpList_plain hg fun _ hK=>qdJ 61 #[(0,x)] ho (uc l) (by
  have e:(#[(0,x)]:Array (Nat×Operand)).map (fun (i,x)=>(i,a.eval x))=#[(0,a.eval x)]:=by simp
  rw [e,hx];exact build_num l hl w) (hK _ _ h)
theorem qeL {ops:Array Oper} {rest:List Oper} {o:Oper} {a:Act} {w:World} {Q:Exit→Act→World→Prop} (hg:o.guard=none) (ho:o.op=.build 61 #[])
  (h:wpList Tryz.prog ops Q rest (a.put o.dst (.agg zeros4)) w):wpList Tryz.prog ops Q (o :: rest) a w:=
 wpList_plain hg fun _ hK=>qdJ 61 #[] ho zeros4 (by simpa using build_zero w) (hK _ _ h)
theorem wpList_build_one {ops:Array Oper} {rest:List Oper} {o:Oper} {a:Act} {w:World} {Q:Exit→Act→World→Prop} (hg:o.guard=none) (x:Operand) (ho:o.op=.build 59 #[(0,x)]) (n:Nat) (hn:n<18446744073709551616) (hx:a.eval x=.int .u64 (n:Int))
  (h:wpList Tryz.prog ops Q rest (a.put o.dst (.agg (uc (limN 4 n)))) w):wpList Tryz.prog ops Q (o :: rest) a w:=
 wpList_plain hg fun _ hK=>qdJ 59 #[(0,x)] ho (uc (limN 4 n)) (by
  have e:(#[(0,x)]:Array (Nat×Operand)).map (fun (i,x)=>(i,a.eval x))=#[(0,a.eval x)]:=by simp
  rw [e,hx];exact build_one n hn w) (hK _ _ h)
theorem and_63 (y:Int):bits .and .u64 y 9223372036854775807=y%9223372036854775808:=by
 have h1:(BitVec.ofInt 64 9223372036854775807).toNat=2^63-1:=by decide
 have key:(BitVec.ofInt 64 y &&& BitVec.ofInt 64 9223372036854775807).toNat=(y%((2^64:Nat):Int)).toNat%2^63:=by
  rw [BitVec.toNat_and,BitVec.toNat_ofInt,h1,Nat.and_two_pow_sub_one_eq_mod]
 show IntKind.u64.wrap ((BitVec.ofInt 64 y &&& BitVec.ofInt 64 9223372036854775807).toNat:Nat)=y%9223372036854775808
 rw [key,IntKind.wrap_u64]
 omega
theorem or_two (o b:Nat) (ho:o≤38) (hb:b≤1):bits .or .u64 ((o:Int)*2) ((b:Nat):Int)=((2*o+b:Nat):Int):=by
 have e1:(BitVec.ofInt 64 ((o:Int)*2)).toNat=2^1*o:=by rw [BitVec.toNat_ofInt];omega
 have e2:(BitVec.ofInt 64 ((b:Nat):Int)).toNat=b:=by rw [BitVec.toNat_ofInt];omega
 have h:=Nat.two_pow_add_eq_or_of_lt (show b<2^1 by omega) o
 show IntKind.u64.wrap (((BitVec.ofInt 64 ((o:Int)*2) ||| BitVec.ofInt 64 ((b:Nat):Int)).toNat:Nat):Int)=_
 rw [BitVec.toNat_or,e1,e2,← h,IntKind.wrap_u64]
 omega
set_option maxHeartbeats 1000000 in
theorem qd5 (x o:Nat) (w:World) (hx:x<mF) (ho:o≤38) :
  Calls Tryz.prog 161 #[.agg (uc (limN 4 x)),.int .u64 (o:Int)] w fun e w'=>e=.returned (.agg (uc (limN 4 ((x+o*mF)%pF))))∧Below w.heap.size w w':=by
 obtain ⟨hz,hi⟩:=zero_of_info qbO;have HG0:=hid (qaj (o:=.cells zeros4 61) (qag w (.cells (uc (limN 4 x)) 59)));have HR0:=hid (qaw w (.cells (uc (limN 4 x)) 59) (.cells zeros4 61));have hb0:=qaP w (.cells (uc (limN 4 x)) 59) (.cells zeros4 61);clear hi
 go_enter Tryz.func161,Tryz.ntmps161
 go_upto_region 1 with fail
 clear hz;generalize ((w.alloc _).alloc _)=W0 at *;generalize hBB:w.heap.size=B at *;have HBB:=hid hBB;clear hBB
 have c3:=qbI HG0.out 3 (by rw [qad];decide)
 rw [qbc _ _ _ (by decide)] at c3
 have f3:=frozen_of_row W0 B 3 _ _ HG0.out;have r1:=qbP HG0.out 3 (dg x 3%9223372036854775808);rw [top_cut x hx] at r1
 have hR1:(W0.setCell ⟨B,3,none⟩ (.int .u64 ((dg x 3%9223372036854775808:Nat):Int))).heap[B+1]?=some (.cells zeros4 61):=by rw [heap_setCell_other _ _ _ _ (by simp)];exact HR0.out
 have hb1:Below B w (W0.setCell ⟨B,3,none⟩ (.int .u64 ((dg x 3%9223372036854775808:Nat):Int))):=hb0.setCell (by simp) _
 have hlt:=dg_lt x 3
 have eO:bits .or .u64 ((o:Int)*2) (((dg x 3:Nat):Int) / 9223372036854775808)=((redN x o:Nat):Int):=by
  have:=or_two o (dg x 3 / 9223372036854775808) ho (by omega)
  rw [top_bit x hx] at this;rw [redN,← this,← top_bit x hx]
  rfl
 have eA:bits .and .u64 ((dg x 3:Nat):Int) 9223372036854775807=((dg x 3%9223372036854775808:Nat):Int):=by rw [and_63];omega
 have HG1:=hid r1;have HR1:=hid hR1;obtain ⟨n1,n2,n3,n4⟩:=red_fits x o hx ho
 have ix:∀ W,(Instr.index 59 (.agg (uc (limN 4 (redT x+19*(redN x o+1))))) (.int .i64 3)).run Tryz.prog W=.ok (.int .u64 ((dg (redT x+19*(redN x o+1)) 3:Nat):Int)) W:=fun W=>qf5 (redT x+19*(redN x o+1)) 3 (by decide) W
 have t3:=top_bit _ n3;have t4:=top_cut _ n4;have hM:redM x o=redN x o+(redT x+19*(redN x o+1)) / hF:=rfl;rw [red_done x o hx ho] at t4
 have HP1:=hid (fun W=>plusW_any (redT x) (19*(redN x o+1)) W)
 have HP2:=hid (fun W=>plusW_any (redT x) (19*redM x o) W)
 have HIt:=hid (qcd (limN 4 (redT x)) (qad _ _));have HIs:=hid (qcd (limN 4 (redT x+19*redM x o)) (qad _ _));have HIf:=hid (qcd (limN 4 ((x+o*mF)%pF)) (qad _ _));have HIr:=hid (sizeF (limN 4 ((x+o*mF)%pF)) (qad _ _))
 have hQ:(redT x+19*(redN x o+1)) / hF≤1:=by rw [redT,hF];omega
 rw [← t3] at hM hQ;have HT:redT x=x%hF:=rfl;rw [← HT] at r1 HG1;clear r1 hR1 hb0 HG0 HR0 t3 n3 n4;generalize dg x 3%9223372036854775808=m3 at *;generalize dg x 3=d3 at *;generalize hn:redN x o=n at *;generalize hm:redM x o=m at *;generalize hr:(x+o*mF)%pF=r at *;generalize redT x=t at *
 have s4:=qbc 4 (t+19*m) 3 (by decide)
 generalize dg (t+19*(n+1)) 3=d5 at *;generalize dg (t+19*m) 3=d6 at *;have HR:=hid hr;clear hr hn hm HT
 have hw1:((n:Int)+1)%18446744073709551616=(n:Int)+1:=by omega
 have hw2:(19*((n:Int)+1))%18446744073709551616=((19*(n+1):Nat):Int):=by omega
 have hw3:((n:Int)+(d5:Int) / 9223372036854775808)%18446744073709551616=(m:Int):=by omega
 have hw4:(19*(m:Int))%18446744073709551616=((19*m:Nat):Int):=by omega
 have hw5:((o:Int)*2)%18446744073709551616=(o:Int)*2:=by omega
 have hk1:((19*(n+1):Nat):Int)=19*((n:Int)+1):=by omega
 have hk2:((19*m:Nat):Int)=19*(m:Int):=by omega
 rw [hk1] at HP1 hw2;rw [hk2] at HP2 hw4
 have hw6:IntKind.u64.wrap ((n:Int)+(d5:Int) / 9223372036854775808)=(m:Int):=by rw [IntKind.wrap_u64];exact hw3
 clear hM hQ hk1 hk2 hw3
 go_wp2_with (with_reducible refine wpList_load_row rfl 59 _ rfl B rfl 59 _ (0,0) _ HG1.out Tryz.underlying59 rfl HIt.out ?_)
 generalize W0.setCell _ _=W1 at *;clear eA eO c3 f3 hw1 hw2 hw5 hlt
 refine (HP1.out W1).mono ?_
 rintro e W2 ⟨rfl,hp2⟩;have HG2:=hid (qaa hp2 (qab HG1.out) HG1.out);have HR2:=hid (qaa hp2 (qab HR1.out) HR1.out)
 have hb2:Below B w W2:=hb1.trans (hp2.mono (by have:=qab HG1.out;omega))
 clear HG1 HR1 hb1 hp2 HP1
 go_wp2_with (with_reducible refine wpList_load_row rfl 59 _ rfl B rfl 59 _ (0,0) _ HG2.out Tryz.underlying59 rfl HIt.out ?_)
 clear ix hw6 hw4
 refine (HP2.out W2).mono ?_
 rintro e W3 ⟨rfl,hp3⟩;have HG3:=hid (qaa hp3 (qab HG2.out) HG2.out);have HR3:=hid (qaa hp3 (qab HR2.out) HR2.out)
 have hb3:Below B w W3:=hb2.trans (hp3.mono (by have:=qab HG2.out;omega))
 clear HG2 HR2 hb2 hp3 HP2
 have HZt:=hid (show (uc (limN 4 t)).size=(uc (limN 4 (t+19*m))).size by rw [qaY,qaY,qad,qad])
 have H1s:=hid (qar (limN 4 (t+19*m)));have g4:=setRow_heap W3 B (uc (limN 4 t)) (uc (limN 4 (t+19*m))) _ _ HG3.out
 have HR4:Hid ((W3.setRow B (uc (limN 4 (t+19*m)))).heap[B+1]?=some (.cells zeros4 61)):=hid (by rw [setRow_other _ _ _ _ (by omega)];exact HR3.out)
 have hb4:Below B w (W3.setRow B (uc (limN 4 (t+19*m)))):=below_setRow hb3 (Nat.le_refl _) _
 have eA:bits .and .u64 ((d6:Nat):Int) 9223372036854775807=((d6%9223372036854775808:Nat):Int):=by rw [and_63];omega
 have c6:=qbI g4 3 (by rw [qad];decide)
 rw [s4] at c6;have f6:=frozen_of_row _ B 3 _ _ g4;have g5:=qbP g4 3 (d6%9223372036854775808);rw [t4] at g5
 have HR5:Hid (((W3.setRow B (uc (limN 4 (t+19*m)))).setCell ⟨B,3,none⟩ (.int .u64 ((d6%9223372036854775808:Nat):Int))).heap[B+1]?=some (.cells zeros4 61)):=hid (by rw [heap_setCell_other _ _ _ _ (by simp)];exact HR4.out)
 have hb5:Below B w ((W3.setRow B (uc (limN 4 (t+19*m)))).setCell ⟨B,3,none⟩ (.int .u64 ((d6%9223372036854775808:Nat):Int))):=hb4.setCell (by simp) _
 have HG5:=hid g5
 have HZr:=hid (show zeros4.size=(uc (limN 4 r)).size by rw [qaY,qad];exact qaY _)
 have H1r:=hid (qar (limN 4 r));clear g4 g5 HR4 hb4 t4 s4 hb3;generalize d6%9223372036854775808=m6 at *;have HLr:=hid (qad 4 r)
 go_wp2_with (first
  | (with_reducible refine wpList_store_row rfl 59 _ _ rfl B (uc (limN 4 (t+19*m))) rfl rfl 59 _ HG3.out HIs.out HZt.out H1s.out ?_)
  | (with_reducible refine wpList_load_row rfl 59 _ rfl B rfl 59 _ (0,0) _ HG5.out Tryz.underlying59 rfl HIf.out ?_)
  | (with_reducible refine qe9 rfl _ rfl (limN 4 r) HLr.out rfl ?_)
  | (with_reducible refine wpList_store_row rfl 61 _ _ rfl (B+1) (uc (limN 4 r)) rfl rfl 61 _ HR5.out HIr.out HZr.out H1r.out ?_))
 exact bodyPost_ret (v:=.agg (uc (limN 4 r))) (results_cell_row (by rfl) _ _ (B+1) 61 _ (0,0) _ rfl (setRow_heap _ _ _ _ _ _ HR5.out) Tryz.underlying61 rfl HIr.out) rfl ⟨by rw [HR.out],by rw [HBB.out];exact below_setRow hb5 (by omega) _⟩
end
section
open Go.RowKit Go.Sort
theorem qdK:pF<mF:=by decide
theorem add_fits (x y:Nat) (hx:x<pF) (hy:y<pF):x+y<mF:=by rw [mF_pF];omega
set_option maxHeartbeats 1000000 in
theorem qcN (x y:Nat) (w:World) (hx:x<pF) (hy:y<pF) :
  Calls Tryz.prog 157 #[.agg (uc (limN 4 x)),.agg (uc (limN 4 y))] w fun e w'=>e=.returned (.agg (uc (limN 4 (addF x y))))∧Below w.heap.size w w':=by
 obtain ⟨hz,hi⟩:=zero_of_info qbO;have HG0:=hid (qaj (o:=.cells zeros4 61) (qaj (o:=.cells (uc (limN 4 y)) 61) (qag w (.cells (uc (limN 4 x)) 61))));have HD0:=hid (qaj (o:=.cells zeros4 61) (qaw w (.cells (uc (limN 4 x)) 61) (.cells (uc (limN 4 y)) 61)));have HR0:=hid (qbL w (.cells (uc (limN 4 x)) 61) (.cells (uc (limN 4 y)) 61) (.cells zeros4 61));have hb0:=qbr w (.cells (uc (limN 4 x)) 61) (.cells (uc (limN 4 y)) 61) (.cells zeros4 61);have HIx:=hid (qcd (limN 4 x) (qad _ _));have HIy:=hid (qcd (limN 4 y) (qad _ _));have HIr:=hid (sizeF (limN 4 (addF x y)) (qad _ _))
 have HZr:=hid (show zeros4.size=(uc (limN 4 (addF x y))).size by rw [qaY,qad];exact qaY _)
 have H1r:=hid (qar (limN 4 (addF x y)))
 have HC1:=hid (fun W=>plusL_any x y W)
 have HC2:=hid (fun W=>qd5 (x+y) 0 W (add_fits x y hx hy) (by omega))
 rw [Nat.zero_mul,Nat.add_zero,show (x+y)%pF=addF x y from rfl] at HC2
 clear hi hx hy
 go_enter Tryz.func157,Tryz.ntmps157
 go_upto_region 1 with fail
 clear hz;generalize (((w.alloc _).alloc _).alloc _)=W0 at *;generalize hBB:w.heap.size=B at *;have HBB:=hid hBB;clear hBB;generalize hr:addF x y=r at *;have HRr:=hid hr;clear hr
 go_wp2_with (first
  | (with_reducible refine wpList_load_row rfl 59 _ rfl B rfl 61 _ (0,0) _ HG0.out Tryz.underlying59 rfl HIx.out ?_)
  | (with_reducible refine wpList_load_row rfl 59 _ rfl (B+1) rfl 61 _ (0,0) _ HD0.out Tryz.underlying59 rfl HIy.out ?_))
 refine (HC1.out W0).mono ?_
 rintro e W1 ⟨rfl,h1⟩
 go_wp2_with fail
 refine (HC2.out W1).mono ?_
 rintro e W2 ⟨rfl,h2⟩;have h12:=h1.trans (h2.mono h1.size);have HR2:=hid (qaa h12 (qab HR0.out) HR0.out)
 have hb2:Below B w W2:=hb0.trans (h12.mono (by have:=qab HR0.out;omega))
 clear HC1 HC2 h1 h2 h12 hb0 HG0 HD0 HR0
 go_wp2_with (with_reducible refine wpList_store_row rfl 61 _ _ rfl (B+1+1) (uc (limN 4 r)) rfl rfl 61 _ HR2.out HIr.out HZr.out H1r.out ?_)
 exact bodyPost_ret (v:=.agg (uc (limN 4 r))) (results_cell_row (by rfl) _ _ (B+1+1) 61 _ (0,0) _ rfl (setRow_heap _ _ _ _ _ _ HR2.out) Tryz.underlying61 rfl HIr.out) rfl ⟨by rw [HRr.out],by rw [HBB.out];exact below_setRow hb2 (by omega) _⟩
def mulV (x y:Nat):Nat:=x*y%mF+x*y / mF*38
theorem mulV_over (x y:Nat) (hx:x<pF) (hy:y<pF):cyN (x*y%mF) (x*y / mF) 38 4=mulV x y / mF∧mulV x y / mF≤38:=by
 have h0:0<mF:=by decide
 have h1:x*y%mF<mF:=Nat.mod_lt _ h0
 have h2:x*y / mF<mF:=by
  apply Nat.div_lt_of_lt_mul
  exact Nat.mul_lt_mul'' (Nat.lt_trans hx qdK) (Nat.lt_trans hy qdK)
 refine ⟨by rw [cyN_last _ _ _ _ (by rw [qeE];exact h1) (by rw [qeE];exact h2),qeE];rfl,?_⟩
 rw [mulV]
 have:(x*y%mF+x*y / mF*38) / mF<39:=Nat.div_lt_of_lt_mul (by omega)
 omega
theorem mulV_mod (x y:Nat):(mulV x y%mF+mulV x y / mF*mF)%pF=mulF x y:=by
 have:mulV x y%mF+mulV x y / mF*mF=mulV x y:=by rw [Nat.mul_comm];exact Nat.mod_add_div _ _
 rw [this,mulV,Nat.mul_comm _ 38];exact mul_parts x y
set_option maxHeartbeats 2000000 in
theorem qaN (x y:Nat) (w:World) (hx:x<pF) (hy:y<pF) :
  Calls Tryz.prog 98 #[.agg (uc (limN 4 x)),.agg (uc (limN 4 y))] w fun e w'=>e=.returned (.agg (uc (limN 4 (mulF x y))))∧Below w.heap.size w w':=by
 obtain ⟨hz,hi⟩:=zero_of_info qbO;obtain ⟨hzl,hil⟩:=zero_of_info infoL;have HG0:=hid (qaj (o:=.cells zeros4 61) (qaj (o:=.cells (uc (limN 4 y)) 61) (qag w (.cells (uc (limN 4 x)) 61))));have HD0:=hid (qaj (o:=.cells zeros4 61) (qaw w (.cells (uc (limN 4 x)) 61) (.cells (uc (limN 4 y)) 61)));have HR0:=hid (qbL w (.cells (uc (limN 4 x)) 61) (.cells (uc (limN 4 y)) 61) (.cells zeros4 61));have hb0:=qbr w (.cells (uc (limN 4 x)) 61) (.cells (uc (limN 4 y)) 61) (.cells zeros4 61);have HIx:=hid (qcd (limN 4 x) (qad _ _));have HIy:=hid (qcd (limN 4 y) (qad _ _));have HIr:=hid (sizeF (limN 4 (mulF x y)) (qad _ _))
 have HZr:=hid (show zeros4.size=(uc (limN 4 (mulF x y))).size by rw [qaY,qad];exact qaY _)
 have H1r:=hid (qar (limN 4 (mulF x y)));obtain ⟨o1,o2⟩:=mulV_over x y hx hy
 have HC1:=hid (fun W=>timesL_any x y W (by rw [qeE];exact Nat.lt_trans hx qdK) (by rw [qeE];exact Nat.lt_trans hy qdK))
 have HC2:=hid (fun W=>plusT_any (x*y%mF) (x*y / mF) 38 W (by omega))
 rw [o1,show x*y%mF+x*y / mF*38=mulV x y from rfl,← limN_mod (mulV x y)] at HC2
 have HC3:=hid (fun W=>qd5 (mulV x y%mF) (mulV x y / mF) W (Nat.mod_lt _ (by decide)) o2)
 rw [mulV_mod] at HC3;have hl0:=qad 4 (x*y%mF);have hl1:=qad 4 (x*y / mF);clear hi hil hx hy o1
 go_enter Tryz.func98,Tryz.ntmps98
 go_upto_region 1 with fail
 clear hz;generalize (((w.alloc _).alloc _).alloc _)=W0 at *;generalize hBB:w.heap.size=B at *;have HBB:=hid hBB;clear hBB;generalize hr:mulF x y=r at *;have HRr:=hid hr;generalize limN 4 (x*y%mF)=lo at *;generalize limN 4 (x*y / mF)=hi at *;generalize limN 4 (mulV x y%mF)=m at *;generalize mulV x y / mF=o at *;clear hr;have HI0:=hid (qcd lo hl0);have HI1:=hid (qcd hi hl1);have HZ0:=hid (qcw lo hl0);have HZ1:=hid (qcw hi hl1);have H0:=hid (qar lo);have H1:=hid (qar hi)
 go_wp2_with (first
  | (with_reducible refine wpList_load_row rfl 59 _ rfl B rfl 61 _ (0,0) _ HG0.out Tryz.underlying59 rfl HIx.out ?_)
  | (with_reducible refine wpList_load_row rfl 59 _ rfl (B+1) rfl 61 _ (0,0) _ HD0.out Tryz.underlying59 rfl HIy.out ?_))
 refine (HC1.out W0).mono ?_
 rintro e W1 ⟨rfl,h1⟩;have HR1:=hid (qaa h1 (qab HR0.out) HR0.out)
 have hb1:Below B w W1:=hb0.trans (h1.mono (by have:=qab HR0.out;omega))
 clear HC1 h1 hb0 HG0 HD0 HR0;have HV1:=hid (qaj (o:=.cells zeros4 59) (qag W1 (.cells zeros4 59)));have HV2:=hid (qaw W1 (.cells zeros4 59) (.cells zeros4 59));have hv:Below W1.heap.size W1 ((W1.alloc (.cells zeros4 59)).alloc (.cells zeros4 59)):=qaP W1 _ _;have HR2:=hid (qaa hv (qab HR1.out) HR1.out);have hlt:=qab HR1.out
 have hb2:Below B w ((W1.alloc (.cells zeros4 59)).alloc (.cells zeros4 59)):=hb1.trans (hv.mono (by omega))
 have hB2:B+1+1<W1.heap.size:=hlt
 have HV3:=hid (show (((W1.alloc (.cells zeros4 59)).alloc (.cells zeros4 59)).setRow W1.heap.size (uc lo)).heap[W1.heap.size+1]?=some (.cells zeros4 59) from by rw [setRow_other _ _ _ _ (by omega)];exact HV2.out)
 have HA:=hid (show ((((W1.alloc (.cells zeros4 59)).alloc (.cells zeros4 59)).setRow W1.heap.size (uc lo)).setRow (W1.heap.size+1) (uc hi)).heap[W1.heap.size]?=some (.cells (uc lo) 59) from by rw [setRow_other _ _ _ _ (by omega)];exact setRow_heap _ _ _ _ _ _ HV1.out)
 have HB:=hid (show ((((W1.alloc (.cells zeros4 59)).alloc (.cells zeros4 59)).setRow W1.heap.size (uc lo)).setRow (W1.heap.size+1) (uc hi)).heap[W1.heap.size+1]?=some (.cells (uc hi) 59) from setRow_heap _ _ _ _ _ _ HV3.out)
 have HR3:=hid (show ((((W1.alloc (.cells zeros4 59)).alloc (.cells zeros4 59)).setRow W1.heap.size (uc lo)).setRow (W1.heap.size+1) (uc hi)).heap[B+1+1]?=some (.cells zeros4 61) from by rw [setRow_other _ _ _ _ (by omega),setRow_other _ _ _ _ (by omega)];exact HR2.out)
 have hb3:Below B w ((((W1.alloc (.cells zeros4 59)).alloc (.cells zeros4 59)).setRow W1.heap.size (uc lo)).setRow (W1.heap.size+1) (uc hi)):=below_setRow (below_setRow hb2 (by omega) _) (by omega) _
 clear HR1 HR2 hb1 hb2 hv hlt
 go_wp2_with (first
  | (with_reducible refine wpList_store_row rfl 59 _ _ rfl W1.heap.size (uc lo) rfl rfl 59 _ HV1.out HI0.out HZ0.out H0.out ?_)
  | (with_reducible refine wpList_store_row rfl 59 _ _ rfl (W1.heap.size+1) (uc hi) rfl rfl 59 _ HV3.out HI1.out HZ1.out H1.out ?_)
  | (with_reducible refine wpList_load_row rfl 59 _ rfl W1.heap.size rfl 59 _ (0,0) _ HA.out Tryz.underlying59 rfl HI0.out ?_)
  | (with_reducible refine wpList_load_row rfl 59 _ rfl (W1.heap.size+1) rfl 59 _ (0,0) _ HB.out Tryz.underlying59 rfl HI1.out ?_))
 clear HV1 HV2 HV3 HA HB hzl;generalize ((World.setRow _ _ _).setRow _ _)=V at *
 refine (HC2.out V).mono ?_
 rintro e W2 ⟨rfl,h2⟩
 go_wp2_with fail
 refine (HC3.out W2).mono ?_
 rintro e W3 ⟨rfl,h3⟩;have h23:=h2.trans (h3.mono h2.size);have HR4:=hid (qaa h23 (qab HR3.out) HR3.out)
 have hb4:Below B w W3:=hb3.trans (h23.mono (by have:=qab HR3.out;omega))
 clear HC2 HC3 h2 h3 h23 hb3 HR3
 go_wp2_with (with_reducible refine wpList_store_row rfl 61 _ _ rfl (B+1+1) (uc (limN 4 r)) rfl rfl 61 _ HR4.out HIr.out HZr.out H1r.out ?_)
 exact bodyPost_ret (v:=.agg (uc (limN 4 r))) (results_cell_row (by rfl) _ _ (B+1+1) 61 _ (0,0) _ rfl (setRow_heap _ _ _ _ _ _ HR4.out) Tryz.underlying61 rfl HIr.out) rfl ⟨by rw [HRr.out],by rw [HBB.out];exact below_setRow hb4 (by omega) _⟩
end
section
open Go.RowKit Go.Sort
theorem powF_one (x:Nat) (hx:x<pF):powF x 1=x:=by rw [powF,Nat.pow_one,Nat.mod_eq_of_lt hx]
theorem qer (x m n:Nat):mulF (powF x m) (powF x n)=powF x (m+n):=by rw [mulF,powF,powF,powF,← Nat.mul_mod,← Nat.pow_add]
theorem qfa (x m n:Nat):powF (powF x m) n=powF x (m*n):=by rw [powF,powF,powF,← Nat.pow_mod,Nat.pow_mul]
set_option maxHeartbeats 1000000 in
theorem qaV (x n:Nat) (w:World) (hx:x<pF) (hn:n≤1000000) :
  Calls Tryz.prog 158 #[.agg (uc (limN 4 x)),.int .i64 (n:Int)] w fun e w'=>e=.returned (.agg (uc (limN 4 (powF x (2^n)))))∧Below w.heap.size w w':=by
 obtain ⟨hz,hi⟩:=zero_of_info qbO;have HG0:=hid (qaj (o:=.cells zeros4 61) (qag w (.cells (uc (limN 4 x)) 61)));have HR0:=hid (qaw w (.cells (uc (limN 4 x)) 61) (.cells zeros4 61));have hb0:=qaP w (.cells (uc (limN 4 x)) 61) (.cells zeros4 61);have HX0:=hid (powF_one x hx);clear hi hx
 go_enter Tryz.func158,Tryz.ntmps158
 go_wp2_with fail
 clear hz;generalize ((w.alloc _).alloc _)=W0 at *;generalize hBB:w.heap.size=B at *;have HBB:=hid hBB;clear hBB
 go_loopw [6] (fun i wr=>∃ k:Nat,k≤n∧i=.int .i64 (k:Int)∧wr.heap[B]?=some (.cells (uc (limN 4 (powF x (2^k)))) 61)∧wr.heap[B+1]?=some (.cells zeros4 61)∧Below B w wr) (fun i _=>n-(intOf i).toNat)
 case atStart=>exact ⟨0,by omega,rfl,by rw [Nat.pow_zero,HX0.out];exact HG0.out,HR0.out,hb0⟩
 case round=>
  clear HG0 HR0 hb0;obtain ⟨k,hk,rfl,hg,hr,hb⟩:=hrel;have HG:=hid hg;have HR:=hid hr;clear hg hr
  by_cases hlt:k<n
  ·have hd:decide ((k:Int)<(n:Int))=true:=by simp;omega
   have HC:=hid (qaN (powF x (2^k)) (powF x (2^k)) wr (qaU _ _) (qaU _ _))
   rw [qer,show 2^k+2^k=2^(k+1) by rw [Nat.pow_succ];omega] at HC
   have HI:=hid (sizeF (limN 4 (powF x (2^k))) (qad _ _));have HI2:=hid (sizeF (limN 4 (powF x (2^(k+1)))) (qad _ _))
   have HZ:=hid (show (uc (limN 4 (powF x (2^k)))).size=(uc (limN 4 (powF x (2^(k+1))))).size by rw [qaY,qaY,qad,qad])
   have H1:=hid (qar (limN 4 (powF x (2^(k+1)))));generalize powF x (2^k)=u at *;generalize hq:powF x (2^(k+1))=q at *;have HQ:=hid hq;clear hq
   go_wp2_with (with_reducible refine wpList_load_row rfl 61 _ rfl B rfl 61 _ (0,0) _ HG.out Tryz.underlying61 rfl HI.out ?_)
   refine HC.out.mono ?_
   rintro e W1 ⟨rfl,h1⟩;have HG1:=hid (qaa h1 (qab HG.out) HG.out);have HR1:=hid (qaa h1 (qab HR.out) HR.out)
   have hb1:Below B w W1:=hb.trans (h1.mono (by have:=qab HG.out;omega))
   have HG2:=hid (setRow_heap W1 B _ (uc (limN 4 q)) _ _ HG1.out)
   have HR2:Hid ((W1.setRow B (uc (limN 4 q))).heap[B+1]?=some (.cells zeros4 61)):=hid (by rw [setRow_other _ _ _ _ (by omega)];exact HR1.out)
   have hb2:Below B w (W1.setRow B (uc (limN 4 q))):=below_setRow hb1 (Nat.le_refl _) _;clear HC hb HG HR HR1 hb1 h1
   go_wp2_with (with_reducible refine wpList_store_row rfl 61 _ _ rfl B (uc (limN 4 q)) rfl rfl 61 _ HG1.out HI2.out HZ.out H1.out ?_)
   go_roundw
   case rel=>exact ⟨k+1,by omega,by go_num,by rw [HQ.out];exact HG2.out,HR2.out,hb2⟩
   case measure=>simp [intOf];omega
  ·have hd:decide ((k:Int)<(n:Int))=false:=by simp;omega
   obtain rfl:k=n:=by omega
   generalize hrow:powF x (2^k)=r at *;have HROW:=hid hrow;clear hrow HX0;have HI:=hid (sizeF (limN 4 r) (qad _ _))
   have HO:=hid (show zeros4.size=(uc (limN 4 r)).size by rw [qaY,qad];exact qaY _)
   have H1:=hid (qar (limN 4 r))
   go_wp2_with (first
    | (with_reducible refine wpList_load_row rfl 61 _ rfl B rfl 61 _ (0,0) _ HG.out Tryz.underlying61 rfl HI.out ?_)
    | (with_reducible refine wpList_store_row rfl 61 _ _ rfl (B+1) (uc (limN 4 r)) rfl rfl 61 _ HR.out HI.out HO.out H1.out ?_))
   exact bodyPost_ret (v:=.agg (uc (limN 4 r))) (results_cell_row (by rfl) _ _ (B+1) 61 _ (0,0) _ rfl (setRow_heap _ _ _ _ _ _ HR.out) Tryz.underlying61 rfl HI.out) rfl ⟨by rw [HROW.out],by rw [HBB.out];exact below_setRow hb (by omega) _⟩
end
section
open Go.RowKit Go.Sort
def qao (x n:Nat):Nat:=powF x (2^n-1)
theorem qbd (x n:Nat):qao x n<pF:=qaU _ _
theorem onesF_one (x:Nat) (hx:x<pF):qao x 1=x:=powF_one x hx
theorem qcx (x n m:Nat):mulF (powF (qao x n) (2^m)) (qao x m)=qao x (n+m):=by
 rw [qao,qao,qao,qfa,qer]
 congr 1
 have h1:0<2^n:=Nat.pow_pos (by decide)
 have h2:0<2^m:=Nat.pow_pos (by decide)
 rw [Nat.pow_add,Nat.sub_mul,Nat.one_mul];have h3:2^m≤2^n*2^m:=Nat.le_mul_of_pos_left _ h1
 omega
theorem qaq (x:Nat):zeros4.size=(uc (limN 4 x)).size:=by rw [qaY,qad];exact qaY _
theorem qak (x:Nat):(Tryz.prog.info? 61).map (·.size)=some (uc (limN 4 x)).size:=sizeF _ (qad _ _)
set_option maxHeartbeats 4000000 in
theorem ones_any (x:Nat) (w:World) (hx:x<pF) :
  Calls Tryz.prog 159 #[.agg (uc (limN 4 x))] w fun e w'=>e=.returned (.agg (uc (limN 4 (qao x 250))))∧Below w.heap.size w w':=by
 obtain ⟨hz,hi⟩:=zero_of_info qbO;have H1:=hid (qaj (o:=.cells zeros4 61) (qag w (.cells (uc (limN 4 x)) 61)));have H2:=hid (qaw w (.cells (uc (limN 4 x)) 61) (.cells zeros4 61));have hb:=qaP w (.cells (uc (limN 4 x)) 61) (.cells zeros4 61)
 have S1:=hid (fun W=>qaV (qao x 1) 1 W (qbd _ _) (by omega))
 have M1:=hid (fun W=>qaN (powF (qao x 1) (2^1)) (qao x 1) W (qaU _ _) (qbd _ _))
 rw [qcx,show 1+1=2 from rfl] at M1
 have I2:=hid (qak (qao x 2));have Z2:=hid (qaq (qao x 2));have O2:=hid (qar (limN 4 (qao x 2)))
 have S2:=hid (fun W=>qaV (qao x 2) 2 W (qbd _ _) (by omega))
 have M2:=hid (fun W=>qaN (powF (qao x 2) (2^2)) (qao x 2) W (qaU _ _) (qbd _ _))
 rw [qcx,show 2+2=4 from rfl] at M2
 have I4:=hid (qak (qao x 4));have Z4:=hid (qaq (qao x 4));have O4:=hid (qar (limN 4 (qao x 4)))
 have S3:=hid (fun W=>qaV (qao x 4) 1 W (qbd _ _) (by omega))
 have M3:=hid (fun W=>qaN (powF (qao x 4) (2^1)) (qao x 1) W (qaU _ _) (qbd _ _))
 rw [qcx,show 4+1=5 from rfl] at M3
 have I5:=hid (qak (qao x 5));have Z5:=hid (qaq (qao x 5));have O5:=hid (qar (limN 4 (qao x 5)))
 have S4:=hid (fun W=>qaV (qao x 5) 5 W (qbd _ _) (by omega))
 have M4:=hid (fun W=>qaN (powF (qao x 5) (2^5)) (qao x 5) W (qaU _ _) (qbd _ _))
 rw [qcx,show 5+5=10 from rfl] at M4
 have I10:=hid (qak (qao x 10));have Z10:=hid (qaq (qao x 10));have O10:=hid (qar (limN 4 (qao x 10)))
 have S5:=hid (fun W=>qaV (qao x 10) 10 W (qbd _ _) (by omega))
 have M5:=hid (fun W=>qaN (powF (qao x 10) (2^10)) (qao x 10) W (qaU _ _) (qbd _ _))
 rw [qcx,show 10+10=20 from rfl] at M5
 have I20:=hid (qak (qao x 20));have Z20:=hid (qaq (qao x 20));have O20:=hid (qar (limN 4 (qao x 20)))
 have S6:=hid (fun W=>qaV (qao x 20) 20 W (qbd _ _) (by omega))
 have M6:=hid (fun W=>qaN (powF (qao x 20) (2^20)) (qao x 20) W (qaU _ _) (qbd _ _))
 rw [qcx,show 20+20=40 from rfl] at M6
 have I40:=hid (qak (qao x 40));have Z40:=hid (qaq (qao x 40));have O40:=hid (qar (limN 4 (qao x 40)))
 have S7:=hid (fun W=>qaV (qao x 40) 10 W (qbd _ _) (by omega))
 have M7:=hid (fun W=>qaN (powF (qao x 40) (2^10)) (qao x 10) W (qaU _ _) (qbd _ _))
 rw [qcx,show 40+10=50 from rfl] at M7
 have I50:=hid (qak (qao x 50));have Z50:=hid (qaq (qao x 50));have O50:=hid (qar (limN 4 (qao x 50)))
 have S8:=hid (fun W=>qaV (qao x 50) 50 W (qbd _ _) (by omega))
 have M8:=hid (fun W=>qaN (powF (qao x 50) (2^50)) (qao x 50) W (qaU _ _) (qbd _ _))
 rw [qcx,show 50+50=100 from rfl] at M8
 have I100:=hid (qak (qao x 100));have Z100:=hid (qaq (qao x 100));have O100:=hid (qar (limN 4 (qao x 100)))
 have S9:=hid (fun W=>qaV (qao x 100) 100 W (qbd _ _) (by omega))
 have M9:=hid (fun W=>qaN (powF (qao x 100) (2^100)) (qao x 100) W (qaU _ _) (qbd _ _))
 rw [qcx,show 100+100=200 from rfl] at M9
 have I200:=hid (qak (qao x 200));have Z200:=hid (qaq (qao x 200));have O200:=hid (qar (limN 4 (qao x 200)))
 have S10:=hid (fun W=>qaV (qao x 200) 50 W (qbd _ _) (by omega))
 have M10:=hid (fun W=>qaN (powF (qao x 200) (2^50)) (qao x 50) W (qaU _ _) (qbd _ _))
 rw [qcx,show 200+50=250 from rfl] at M10
 have I250:=hid (qak (qao x 250));have Z250:=hid (qaq (qao x 250));have O250:=hid (qar (limN 4 (qao x 250)));have I1:=hid (qak x);rw [onesF_one x hx] at S1 M1;rw [onesF_one x hx] at M3;clear hi hx
 go_enter Tryz.func159,Tryz.ntmps159
 go_upto_region 1 with fail
 generalize ((w.alloc _).alloc _)=W0 at *;generalize hBB:w.heap.size=B at *;have HBB:=hid hBB;clear hBB;generalize powF x (2^1)=q1 at *;generalize powF (qao x 2) (2^2)=q2 at *;generalize powF (qao x 4) (2^1)=q3 at *;generalize powF (qao x 5) (2^5)=q4 at *;generalize powF (qao x 10) (2^10)=q5 at *;generalize powF (qao x 20) (2^20)=q6 at *;generalize powF (qao x 40) (2^10)=q7 at *;generalize powF (qao x 50) (2^50)=q8 at *;generalize powF (qao x 100) (2^100)=q9 at *;generalize powF (qao x 200) (2^50)=q10 at *;generalize h2:qao x 2=u2 at *;generalize h4:qao x 4=u4 at *;generalize h5:qao x 5=u5 at *;generalize h10:qao x 10=u10 at *;generalize h20:qao x 20=u20 at *;generalize h40:qao x 40=u40 at *;generalize h50:qao x 50=u50 at *;generalize h100:qao x 100=u100 at *;generalize h200:qao x 200=u200 at *;generalize h250:qao x 250=u250 at *;have HU:=hid h250;clear h2 h4 h5 h10 h20 h40 h50 h100 h200 h250
 refine qam 5 52 [.val (.agg (uc (limN 4 x))) [(1,.pointer (some ⟨B,0,none⟩))],.val (.agg (uc (limN 4 q1))) [(12,.agg (uc (limN 4 x)))],.val (.agg (uc (limN 4 x))) [(1,.pointer (some ⟨B,0,none⟩))],.val (.agg (uc (limN 4 u2))) [(13,.agg (uc (limN 4 q1))),(14,.agg (uc (limN 4 x)))],.fresh (.cells zeros4 61)] (by kernel_rfl) (by kernel_rfl) rfl ?_ ?_ ?_
 ·simp only [take_succ_cons,List.take_zero,qaL,qaK,HeadSpec.val,HeadSpec.fresh,and_true]
  refine ⟨?_,?_,?_,?_,?_⟩
  ·intro a w hb h
   have e0:=h (1,.pointer (some ⟨B,0,none⟩)) (by simp)
   exact qae 61 (.tmp 1) rfl B e0 61 _ (0,0) _ (qaa hb (qab H1.out) H1.out) Tryz.underlying61 rfl I1.out
  ·intro a w hb h
   have e0:=h (12,.agg (uc (limN 4 x))) (by simp)
   simp only [getD_eq_getD_getElem?] at e0
   simp [go_sem,e0,qac]
   exact S1.out w
  ·intro a w hb h
   have e0:=h (1,.pointer (some ⟨B,0,none⟩)) (by simp)
   exact qae 61 (.tmp 1) rfl B e0 61 _ (0,0) _ (qaa hb (qab H1.out) H1.out) Tryz.underlying61 rfl I1.out
  ·intro a w hb h
   have e0:=h (13,.agg (uc (limN 4 q1))) (by simp)
   have e1:=h (14,.agg (uc (limN 4 x))) (by simp)
   simp only [getD_eq_getD_getElem?] at e0 e1
   simp [go_sem,e0,e1,qac]
   exact M1.out w
  ·intro a w hb
   simp [go_sem,hz]
 ·simp [qau,qav,qaJ,HeadSpec.val,HeadSpec.fresh,Act.put]
 ·simp only [take_succ_cons,List.take_zero,drop_succ_cons,List.drop_zero,qaH,HeadSpec.val,HeadSpec.fresh,Act.put,setIfInBounds_toArray,set_cons_succ,set_cons_zero]
  intro g3 hgg3 _ v1 hv1 hgs
  have HN:=hid (show v1.heap[g3]?=some (.cells zeros4 61) from hgs (g3,.cells zeros4 61) (by simp))
  have hb1:Below B w v1:=hb.trans (hv1.mono (by have:=qab H1.out;omega))
  have HNN:=hid (setRow_heap v1 (g3) _ (uc (limN 4 u2)) _ _ HN.out)
  have kH1:Hid ((v1.setRow (g3) (uc (limN 4 u2))).heap[B]?=some (.cells (uc (limN 4 x)) 61)):=hid (by rw [setRow_other _ _ _ _ (by have:=qab H1.out;omega)];exact qaa hv1 (qab H1.out) H1.out)
  have kH2:Hid ((v1.setRow (g3) (uc (limN 4 u2))).heap[B+1]?=some (.cells zeros4 61)):=hid (by rw [setRow_other _ _ _ _ (by have:=qab H2.out;omega)];exact qaa hv1 (qab H2.out) H2.out)
  have hb2:Below B w (v1.setRow (g3) (uc (limN 4 u2))):=below_setRow hb1 (by have:=qab H1.out;omega) _
  clear H1 H2 hb1 hv1 hgs hb
  go_wp2_with (with_reducible refine wpList_store_row rfl 61 _ _ rfl (g3) (uc (limN 4 u2)) rfl rfl 61 _ HN.out I2.out Z2.out O2.out ?_)
  generalize World.setRow _ _ _=W1 at *;have H1:=kH1;have H2:=kH2;have H3:=HNN;have hb:=hb2;clear kH1 kH2 HNN HN hb2 S1 M1
  try simp only [Act.put]
  refine qam 5 52 [.val (.agg (uc (limN 4 u2))) [(3,.pointer (some ⟨g3,0,none⟩))],.val (.agg (uc (limN 4 q2))) [(16,.agg (uc (limN 4 u2)))],.val (.agg (uc (limN 4 u2))) [(3,.pointer (some ⟨g3,0,none⟩))],.val (.agg (uc (limN 4 u4))) [(17,.agg (uc (limN 4 q2))),(18,.agg (uc (limN 4 u2)))],.fresh (.cells zeros4 61)] (by kernel_rfl) (by kernel_rfl) rfl ?_ ?_ ?_
  ·simp only [take_succ_cons,List.take_zero,qaL,qaK,HeadSpec.val,HeadSpec.fresh,and_true]
   refine ⟨?_,?_,?_,?_,?_⟩
   ·intro a w hb h
    have e0:=h (3,.pointer (some ⟨g3,0,none⟩)) (by simp)
    exact qae 61 (.tmp 3) rfl g3 e0 61 _ (0,0) _ (qaa hb (qab H3.out) H3.out) Tryz.underlying61 rfl I2.out
   ·intro a w hb h
    have e0:=h (16,.agg (uc (limN 4 u2))) (by simp)
    simp only [getD_eq_getD_getElem?] at e0
    simp [go_sem,e0,qac]
    exact S2.out w
   ·intro a w hb h
    have e0:=h (3,.pointer (some ⟨g3,0,none⟩)) (by simp)
    exact qae 61 (.tmp 3) rfl g3 e0 61 _ (0,0) _ (qaa hb (qab H3.out) H3.out) Tryz.underlying61 rfl I2.out
   ·intro a w hb h
    have e0:=h (17,.agg (uc (limN 4 q2))) (by simp)
    have e1:=h (18,.agg (uc (limN 4 u2))) (by simp)
    simp only [getD_eq_getD_getElem?] at e0 e1
    simp [go_sem,e0,e1,qac]
    exact M2.out w
   ·intro a w hb
    simp [go_sem,hz]
  ·simp [qau,qav,qaJ,HeadSpec.val,HeadSpec.fresh,Act.put]
  ·simp only [take_succ_cons,List.take_zero,drop_succ_cons,List.drop_zero,qaH,HeadSpec.val,HeadSpec.fresh,Act.put,setIfInBounds_toArray,set_cons_succ,set_cons_zero]
   intro g4 hgg4 _ v1 hv1 hgs
   have HN:=hid (show v1.heap[g4]?=some (.cells zeros4 61) from hgs (g4,.cells zeros4 61) (by simp))
   have hb1:Below B w v1:=hb.trans (hv1.mono (by have:=qab H1.out;omega))
   have HNN:=hid (setRow_heap v1 (g4) _ (uc (limN 4 u4)) _ _ HN.out)
   have kH1:Hid ((v1.setRow (g4) (uc (limN 4 u4))).heap[B]?=some (.cells (uc (limN 4 x)) 61)):=hid (by rw [setRow_other _ _ _ _ (by have:=qab H1.out;omega)];exact qaa hv1 (qab H1.out) H1.out)
   have kH2:Hid ((v1.setRow (g4) (uc (limN 4 u4))).heap[B+1]?=some (.cells zeros4 61)):=hid (by rw [setRow_other _ _ _ _ (by have:=qab H2.out;omega)];exact qaa hv1 (qab H2.out) H2.out)
   have hb2:Below B w (v1.setRow (g4) (uc (limN 4 u4))):=below_setRow hb1 (by have:=qab H1.out;omega) _
   clear H1 H2 hb1 hv1 hgs hb
   go_wp2_with (with_reducible refine wpList_store_row rfl 61 _ _ rfl (g4) (uc (limN 4 u4)) rfl rfl 61 _ HN.out I4.out Z4.out O4.out ?_)
   generalize World.setRow _ _ _=W2 at *;have H1:=kH1;have H2:=kH2;have H4:=HNN;have hb:=hb2;clear kH1 kH2 HNN HN hb2 S2 M2
   try simp only [Act.put]
   refine qam 5 52 [.val (.agg (uc (limN 4 u4))) [(4,.pointer (some ⟨g4,0,none⟩))],.val (.agg (uc (limN 4 q3))) [(20,.agg (uc (limN 4 u4)))],.val (.agg (uc (limN 4 x))) [(1,.pointer (some ⟨B,0,none⟩))],.val (.agg (uc (limN 4 u5))) [(21,.agg (uc (limN 4 q3))),(22,.agg (uc (limN 4 x)))],.fresh (.cells zeros4 61)] (by kernel_rfl) (by kernel_rfl) rfl ?_ ?_ ?_
   ·simp only [take_succ_cons,List.take_zero,qaL,qaK,HeadSpec.val,HeadSpec.fresh,and_true]
    refine ⟨?_,?_,?_,?_,?_⟩
    ·intro a w hb h
     have e0:=h (4,.pointer (some ⟨g4,0,none⟩)) (by simp)
     exact qae 61 (.tmp 4) rfl g4 e0 61 _ (0,0) _ (qaa hb (qab H4.out) H4.out) Tryz.underlying61 rfl I4.out
    ·intro a w hb h
     have e0:=h (20,.agg (uc (limN 4 u4))) (by simp)
     simp only [getD_eq_getD_getElem?] at e0
     simp [go_sem,e0,qac]
     exact S3.out w
    ·intro a w hb h
     have e0:=h (1,.pointer (some ⟨B,0,none⟩)) (by simp)
     exact qae 61 (.tmp 1) rfl B e0 61 _ (0,0) _ (qaa hb (qab H1.out) H1.out) Tryz.underlying61 rfl I1.out
    ·intro a w hb h
     have e0:=h (21,.agg (uc (limN 4 q3))) (by simp)
     have e1:=h (22,.agg (uc (limN 4 x))) (by simp)
     simp only [getD_eq_getD_getElem?] at e0 e1
     simp [go_sem,e0,e1,qac]
     exact M3.out w
    ·intro a w hb
     simp [go_sem,hz]
   ·simp [qau,qav,qaJ,HeadSpec.val,HeadSpec.fresh,Act.put]
   ·simp only [take_succ_cons,List.take_zero,drop_succ_cons,List.drop_zero,qaH,HeadSpec.val,HeadSpec.fresh,Act.put,setIfInBounds_toArray,set_cons_succ,set_cons_zero]
    intro g5 hgg5 _ v1 hv1 hgs
    have HN:=hid (show v1.heap[g5]?=some (.cells zeros4 61) from hgs (g5,.cells zeros4 61) (by simp))
    have hb1:Below B w v1:=hb.trans (hv1.mono (by have:=qab H1.out;omega))
    have HNN:=hid (setRow_heap v1 (g5) _ (uc (limN 4 u5)) _ _ HN.out)
    have kH1:Hid ((v1.setRow (g5) (uc (limN 4 u5))).heap[B]?=some (.cells (uc (limN 4 x)) 61)):=hid (by rw [setRow_other _ _ _ _ (by have:=qab H1.out;omega)];exact qaa hv1 (qab H1.out) H1.out)
    have kH2:Hid ((v1.setRow (g5) (uc (limN 4 u5))).heap[B+1]?=some (.cells zeros4 61)):=hid (by rw [setRow_other _ _ _ _ (by have:=qab H2.out;omega)];exact qaa hv1 (qab H2.out) H2.out)
    have hb2:Below B w (v1.setRow (g5) (uc (limN 4 u5))):=below_setRow hb1 (by have:=qab H1.out;omega) _
    clear H1 H2 hb1 hv1 hgs hb
    go_wp2_with (with_reducible refine wpList_store_row rfl 61 _ _ rfl (g5) (uc (limN 4 u5)) rfl rfl 61 _ HN.out I5.out Z5.out O5.out ?_)
    generalize World.setRow _ _ _=W3 at *;have H1:=kH1;have H2:=kH2;have H5:=HNN;have hb:=hb2;clear kH1 kH2 HNN HN hb2 S3 M3
    try simp only [Act.put]
    refine qam 5 52 [.val (.agg (uc (limN 4 u5))) [(5,.pointer (some ⟨g5,0,none⟩))],.val (.agg (uc (limN 4 q4))) [(24,.agg (uc (limN 4 u5)))],.val (.agg (uc (limN 4 u5))) [(5,.pointer (some ⟨g5,0,none⟩))],.val (.agg (uc (limN 4 u10))) [(25,.agg (uc (limN 4 q4))),(26,.agg (uc (limN 4 u5)))],.fresh (.cells zeros4 61)] (by kernel_rfl) (by kernel_rfl) rfl ?_ ?_ ?_
    ·simp only [take_succ_cons,List.take_zero,qaL,qaK,HeadSpec.val,HeadSpec.fresh,and_true]
     refine ⟨?_,?_,?_,?_,?_⟩
     ·intro a w hb h
      have e0:=h (5,.pointer (some ⟨g5,0,none⟩)) (by simp)
      exact qae 61 (.tmp 5) rfl g5 e0 61 _ (0,0) _ (qaa hb (qab H5.out) H5.out) Tryz.underlying61 rfl I5.out
     ·intro a w hb h
      have e0:=h (24,.agg (uc (limN 4 u5))) (by simp)
      simp only [getD_eq_getD_getElem?] at e0
      simp [go_sem,e0,qac]
      exact S4.out w
     ·intro a w hb h
      have e0:=h (5,.pointer (some ⟨g5,0,none⟩)) (by simp)
      exact qae 61 (.tmp 5) rfl g5 e0 61 _ (0,0) _ (qaa hb (qab H5.out) H5.out) Tryz.underlying61 rfl I5.out
     ·intro a w hb h
      have e0:=h (25,.agg (uc (limN 4 q4))) (by simp)
      have e1:=h (26,.agg (uc (limN 4 u5))) (by simp)
      simp only [getD_eq_getD_getElem?] at e0 e1
      simp [go_sem,e0,e1,qac]
      exact M4.out w
     ·intro a w hb
      simp [go_sem,hz]
    ·simp [qau,qav,qaJ,HeadSpec.val,HeadSpec.fresh,Act.put]
    ·simp only [take_succ_cons,List.take_zero,drop_succ_cons,List.drop_zero,qaH,HeadSpec.val,HeadSpec.fresh,Act.put,setIfInBounds_toArray,set_cons_succ,set_cons_zero]
     intro g6 hgg6 _ v1 hv1 hgs
     have HN:=hid (show v1.heap[g6]?=some (.cells zeros4 61) from hgs (g6,.cells zeros4 61) (by simp))
     have hb1:Below B w v1:=hb.trans (hv1.mono (by have:=qab H1.out;omega))
     have HNN:=hid (setRow_heap v1 (g6) _ (uc (limN 4 u10)) _ _ HN.out)
     have kH1:Hid ((v1.setRow (g6) (uc (limN 4 u10))).heap[B]?=some (.cells (uc (limN 4 x)) 61)):=hid (by rw [setRow_other _ _ _ _ (by have:=qab H1.out;omega)];exact qaa hv1 (qab H1.out) H1.out)
     have kH2:Hid ((v1.setRow (g6) (uc (limN 4 u10))).heap[B+1]?=some (.cells zeros4 61)):=hid (by rw [setRow_other _ _ _ _ (by have:=qab H2.out;omega)];exact qaa hv1 (qab H2.out) H2.out)
     have hb2:Below B w (v1.setRow (g6) (uc (limN 4 u10))):=below_setRow hb1 (by have:=qab H1.out;omega) _
     clear H1 H2 hb1 hv1 hgs hb
     go_wp2_with (with_reducible refine wpList_store_row rfl 61 _ _ rfl (g6) (uc (limN 4 u10)) rfl rfl 61 _ HN.out I10.out Z10.out O10.out ?_)
     generalize World.setRow _ _ _=W4 at *;have H1:=kH1;have H2:=kH2;have H6:=HNN;have hb:=hb2;clear kH1 kH2 HNN HN hb2 S4 M4
     try simp only [Act.put]
     refine qam 5 52 [.val (.agg (uc (limN 4 u10))) [(6,.pointer (some ⟨g6,0,none⟩))],.val (.agg (uc (limN 4 q5))) [(28,.agg (uc (limN 4 u10)))],.val (.agg (uc (limN 4 u10))) [(6,.pointer (some ⟨g6,0,none⟩))],.val (.agg (uc (limN 4 u20))) [(29,.agg (uc (limN 4 q5))),(30,.agg (uc (limN 4 u10)))],.fresh (.cells zeros4 61)] (by kernel_rfl) (by kernel_rfl) rfl ?_ ?_ ?_
     ·simp only [take_succ_cons,List.take_zero,qaL,qaK,HeadSpec.val,HeadSpec.fresh,and_true]
      refine ⟨?_,?_,?_,?_,?_⟩
      ·intro a w hb h
       have e0:=h (6,.pointer (some ⟨g6,0,none⟩)) (by simp)
       exact qae 61 (.tmp 6) rfl g6 e0 61 _ (0,0) _ (qaa hb (qab H6.out) H6.out) Tryz.underlying61 rfl I10.out
      ·intro a w hb h
       have e0:=h (28,.agg (uc (limN 4 u10))) (by simp)
       simp only [getD_eq_getD_getElem?] at e0
       simp [go_sem,e0,qac]
       exact S5.out w
      ·intro a w hb h
       have e0:=h (6,.pointer (some ⟨g6,0,none⟩)) (by simp)
       exact qae 61 (.tmp 6) rfl g6 e0 61 _ (0,0) _ (qaa hb (qab H6.out) H6.out) Tryz.underlying61 rfl I10.out
      ·intro a w hb h
       have e0:=h (29,.agg (uc (limN 4 q5))) (by simp)
       have e1:=h (30,.agg (uc (limN 4 u10))) (by simp)
       simp only [getD_eq_getD_getElem?] at e0 e1
       simp [go_sem,e0,e1,qac]
       exact M5.out w
      ·intro a w hb
       simp [go_sem,hz]
     ·simp [qau,qav,qaJ,HeadSpec.val,HeadSpec.fresh,Act.put]
     ·simp only [take_succ_cons,List.take_zero,drop_succ_cons,List.drop_zero,qaH,HeadSpec.val,HeadSpec.fresh,Act.put,setIfInBounds_toArray,set_cons_succ,set_cons_zero]
      intro g7 hgg7 _ v1 hv1 hgs
      have HN:=hid (show v1.heap[g7]?=some (.cells zeros4 61) from hgs (g7,.cells zeros4 61) (by simp))
      have hb1:Below B w v1:=hb.trans (hv1.mono (by have:=qab H1.out;omega))
      have HNN:=hid (setRow_heap v1 (g7) _ (uc (limN 4 u20)) _ _ HN.out)
      have kH1:Hid ((v1.setRow (g7) (uc (limN 4 u20))).heap[B]?=some (.cells (uc (limN 4 x)) 61)):=hid (by rw [setRow_other _ _ _ _ (by have:=qab H1.out;omega)];exact qaa hv1 (qab H1.out) H1.out)
      have kH2:Hid ((v1.setRow (g7) (uc (limN 4 u20))).heap[B+1]?=some (.cells zeros4 61)):=hid (by rw [setRow_other _ _ _ _ (by have:=qab H2.out;omega)];exact qaa hv1 (qab H2.out) H2.out)
      have kH6:Hid ((v1.setRow (g7) (uc (limN 4 u20))).heap[g6]?=some (.cells (uc (limN 4 u10)) 61)):=hid (by rw [setRow_other _ _ _ _ (by have:=qab H6.out;omega)];exact qaa hv1 (qab H6.out) H6.out)
      have hb2:Below B w (v1.setRow (g7) (uc (limN 4 u20))):=below_setRow hb1 (by have:=qab H1.out;omega) _
      clear H1 H2 H6 hb1 hv1 hgs hb
      go_wp2_with (with_reducible refine wpList_store_row rfl 61 _ _ rfl (g7) (uc (limN 4 u20)) rfl rfl 61 _ HN.out I20.out Z20.out O20.out ?_)
      generalize World.setRow _ _ _=W5 at *;have H1:=kH1;have H2:=kH2;have H6:=kH6;have H7:=HNN;have hb:=hb2;clear kH1 kH2 kH6 HNN HN hb2 S5 M5
      try simp only [Act.put]
      refine qam 5 52 [.val (.agg (uc (limN 4 u20))) [(7,.pointer (some ⟨g7,0,none⟩))],.val (.agg (uc (limN 4 q6))) [(32,.agg (uc (limN 4 u20)))],.val (.agg (uc (limN 4 u20))) [(7,.pointer (some ⟨g7,0,none⟩))],.val (.agg (uc (limN 4 u40))) [(33,.agg (uc (limN 4 q6))),(34,.agg (uc (limN 4 u20)))],.fresh (.cells zeros4 61)] (by kernel_rfl) (by kernel_rfl) rfl ?_ ?_ ?_
      ·simp only [take_succ_cons,List.take_zero,qaL,qaK,HeadSpec.val,HeadSpec.fresh,and_true]
       refine ⟨?_,?_,?_,?_,?_⟩
       ·intro a w hb h
        have e0:=h (7,.pointer (some ⟨g7,0,none⟩)) (by simp)
        exact qae 61 (.tmp 7) rfl g7 e0 61 _ (0,0) _ (qaa hb (qab H7.out) H7.out) Tryz.underlying61 rfl I20.out
       ·intro a w hb h
        have e0:=h (32,.agg (uc (limN 4 u20))) (by simp)
        simp only [getD_eq_getD_getElem?] at e0
        simp [go_sem,e0,qac]
        exact S6.out w
       ·intro a w hb h
        have e0:=h (7,.pointer (some ⟨g7,0,none⟩)) (by simp)
        exact qae 61 (.tmp 7) rfl g7 e0 61 _ (0,0) _ (qaa hb (qab H7.out) H7.out) Tryz.underlying61 rfl I20.out
       ·intro a w hb h
        have e0:=h (33,.agg (uc (limN 4 q6))) (by simp)
        have e1:=h (34,.agg (uc (limN 4 u20))) (by simp)
        simp only [getD_eq_getD_getElem?] at e0 e1
        simp [go_sem,e0,e1,qac]
        exact M6.out w
       ·intro a w hb
        simp [go_sem,hz]
      ·simp [qau,qav,qaJ,HeadSpec.val,HeadSpec.fresh,Act.put]
      ·simp only [take_succ_cons,List.take_zero,drop_succ_cons,List.drop_zero,qaH,HeadSpec.val,HeadSpec.fresh,Act.put,setIfInBounds_toArray,set_cons_succ,set_cons_zero]
       intro g8 hgg8 _ v1 hv1 hgs
       have HN:=hid (show v1.heap[g8]?=some (.cells zeros4 61) from hgs (g8,.cells zeros4 61) (by simp))
       have hb1:Below B w v1:=hb.trans (hv1.mono (by have:=qab H1.out;omega))
       have HNN:=hid (setRow_heap v1 (g8) _ (uc (limN 4 u40)) _ _ HN.out)
       have kH1:Hid ((v1.setRow (g8) (uc (limN 4 u40))).heap[B]?=some (.cells (uc (limN 4 x)) 61)):=hid (by rw [setRow_other _ _ _ _ (by have:=qab H1.out;omega)];exact qaa hv1 (qab H1.out) H1.out)
       have kH2:Hid ((v1.setRow (g8) (uc (limN 4 u40))).heap[B+1]?=some (.cells zeros4 61)):=hid (by rw [setRow_other _ _ _ _ (by have:=qab H2.out;omega)];exact qaa hv1 (qab H2.out) H2.out)
       have kH6:Hid ((v1.setRow (g8) (uc (limN 4 u40))).heap[g6]?=some (.cells (uc (limN 4 u10)) 61)):=hid (by rw [setRow_other _ _ _ _ (by have:=qab H6.out;omega)];exact qaa hv1 (qab H6.out) H6.out)
       have hb2:Below B w (v1.setRow (g8) (uc (limN 4 u40))):=below_setRow hb1 (by have:=qab H1.out;omega) _
       clear H1 H2 H6 hb1 hv1 hgs hb
       go_wp2_with (with_reducible refine wpList_store_row rfl 61 _ _ rfl (g8) (uc (limN 4 u40)) rfl rfl 61 _ HN.out I40.out Z40.out O40.out ?_)
       generalize World.setRow _ _ _=W6 at *;have H1:=kH1;have H2:=kH2;have H6:=kH6;have H8:=HNN;have hb:=hb2;clear kH1 kH2 kH6 HNN HN hb2 S6 M6
       try simp only [Act.put]
       refine qam 5 52 [.val (.agg (uc (limN 4 u40))) [(8,.pointer (some ⟨g8,0,none⟩))],.val (.agg (uc (limN 4 q7))) [(36,.agg (uc (limN 4 u40)))],.val (.agg (uc (limN 4 u10))) [(6,.pointer (some ⟨g6,0,none⟩))],.val (.agg (uc (limN 4 u50))) [(37,.agg (uc (limN 4 q7))),(38,.agg (uc (limN 4 u10)))],.fresh (.cells zeros4 61)] (by kernel_rfl) (by kernel_rfl) rfl ?_ ?_ ?_
       ·simp only [take_succ_cons,List.take_zero,qaL,qaK,HeadSpec.val,HeadSpec.fresh,and_true]
        refine ⟨?_,?_,?_,?_,?_⟩
        ·intro a w hb h
         have e0:=h (8,.pointer (some ⟨g8,0,none⟩)) (by simp)
         exact qae 61 (.tmp 8) rfl g8 e0 61 _ (0,0) _ (qaa hb (qab H8.out) H8.out) Tryz.underlying61 rfl I40.out
        ·intro a w hb h
         have e0:=h (36,.agg (uc (limN 4 u40))) (by simp)
         simp only [getD_eq_getD_getElem?] at e0
         simp [go_sem,e0,qac]
         exact S7.out w
        ·intro a w hb h
         have e0:=h (6,.pointer (some ⟨g6,0,none⟩)) (by simp)
         exact qae 61 (.tmp 6) rfl g6 e0 61 _ (0,0) _ (qaa hb (qab H6.out) H6.out) Tryz.underlying61 rfl I10.out
        ·intro a w hb h
         have e0:=h (37,.agg (uc (limN 4 q7))) (by simp)
         have e1:=h (38,.agg (uc (limN 4 u10))) (by simp)
         simp only [getD_eq_getD_getElem?] at e0 e1
         simp [go_sem,e0,e1,qac]
         exact M7.out w
        ·intro a w hb
         simp [go_sem,hz]
       ·simp [qau,qav,qaJ,HeadSpec.val,HeadSpec.fresh,Act.put]
       ·simp only [take_succ_cons,List.take_zero,drop_succ_cons,List.drop_zero,qaH,HeadSpec.val,HeadSpec.fresh,Act.put,setIfInBounds_toArray,set_cons_succ,set_cons_zero]
        intro g9 hgg9 _ v1 hv1 hgs
        have HN:=hid (show v1.heap[g9]?=some (.cells zeros4 61) from hgs (g9,.cells zeros4 61) (by simp))
        have hb1:Below B w v1:=hb.trans (hv1.mono (by have:=qab H1.out;omega))
        have HNN:=hid (setRow_heap v1 (g9) _ (uc (limN 4 u50)) _ _ HN.out)
        have kH1:Hid ((v1.setRow (g9) (uc (limN 4 u50))).heap[B]?=some (.cells (uc (limN 4 x)) 61)):=hid (by rw [setRow_other _ _ _ _ (by have:=qab H1.out;omega)];exact qaa hv1 (qab H1.out) H1.out)
        have kH2:Hid ((v1.setRow (g9) (uc (limN 4 u50))).heap[B+1]?=some (.cells zeros4 61)):=hid (by rw [setRow_other _ _ _ _ (by have:=qab H2.out;omega)];exact qaa hv1 (qab H2.out) H2.out)
        have hb2:Below B w (v1.setRow (g9) (uc (limN 4 u50))):=below_setRow hb1 (by have:=qab H1.out;omega) _
        clear H1 H2 hb1 hv1 hgs hb
        go_wp2_with (with_reducible refine wpList_store_row rfl 61 _ _ rfl (g9) (uc (limN 4 u50)) rfl rfl 61 _ HN.out I50.out Z50.out O50.out ?_)
        generalize World.setRow _ _ _=W7 at *;have H1:=kH1;have H2:=kH2;have H9:=HNN;have hb:=hb2;clear kH1 kH2 HNN HN hb2 S7 M7
        try simp only [Act.put]
        refine qam 5 52 [.val (.agg (uc (limN 4 u50))) [(9,.pointer (some ⟨g9,0,none⟩))],.val (.agg (uc (limN 4 q8))) [(40,.agg (uc (limN 4 u50)))],.val (.agg (uc (limN 4 u50))) [(9,.pointer (some ⟨g9,0,none⟩))],.val (.agg (uc (limN 4 u100))) [(41,.agg (uc (limN 4 q8))),(42,.agg (uc (limN 4 u50)))],.fresh (.cells zeros4 61)] (by kernel_rfl) (by kernel_rfl) rfl ?_ ?_ ?_
        ·simp only [take_succ_cons,List.take_zero,qaL,qaK,HeadSpec.val,HeadSpec.fresh,and_true]
         refine ⟨?_,?_,?_,?_,?_⟩
         ·intro a w hb h
          have e0:=h (9,.pointer (some ⟨g9,0,none⟩)) (by simp)
          exact qae 61 (.tmp 9) rfl g9 e0 61 _ (0,0) _ (qaa hb (qab H9.out) H9.out) Tryz.underlying61 rfl I50.out
         ·intro a w hb h
          have e0:=h (40,.agg (uc (limN 4 u50))) (by simp)
          simp only [getD_eq_getD_getElem?] at e0
          simp [go_sem,e0,qac]
          exact S8.out w
         ·intro a w hb h
          have e0:=h (9,.pointer (some ⟨g9,0,none⟩)) (by simp)
          exact qae 61 (.tmp 9) rfl g9 e0 61 _ (0,0) _ (qaa hb (qab H9.out) H9.out) Tryz.underlying61 rfl I50.out
         ·intro a w hb h
          have e0:=h (41,.agg (uc (limN 4 q8))) (by simp)
          have e1:=h (42,.agg (uc (limN 4 u50))) (by simp)
          simp only [getD_eq_getD_getElem?] at e0 e1
          simp [go_sem,e0,e1,qac]
          exact M8.out w
         ·intro a w hb
          simp [go_sem,hz]
        ·simp [qau,qav,qaJ,HeadSpec.val,HeadSpec.fresh,Act.put]
        ·simp only [take_succ_cons,List.take_zero,drop_succ_cons,List.drop_zero,qaH,HeadSpec.val,HeadSpec.fresh,Act.put,setIfInBounds_toArray,set_cons_succ,set_cons_zero]
         intro g10 hgg10 _ v1 hv1 hgs
         have HN:=hid (show v1.heap[g10]?=some (.cells zeros4 61) from hgs (g10,.cells zeros4 61) (by simp))
         have hb1:Below B w v1:=hb.trans (hv1.mono (by have:=qab H1.out;omega))
         have HNN:=hid (setRow_heap v1 (g10) _ (uc (limN 4 u100)) _ _ HN.out)
         have kH1:Hid ((v1.setRow (g10) (uc (limN 4 u100))).heap[B]?=some (.cells (uc (limN 4 x)) 61)):=hid (by rw [setRow_other _ _ _ _ (by have:=qab H1.out;omega)];exact qaa hv1 (qab H1.out) H1.out)
         have kH2:Hid ((v1.setRow (g10) (uc (limN 4 u100))).heap[B+1]?=some (.cells zeros4 61)):=hid (by rw [setRow_other _ _ _ _ (by have:=qab H2.out;omega)];exact qaa hv1 (qab H2.out) H2.out)
         have kH9:Hid ((v1.setRow (g10) (uc (limN 4 u100))).heap[g9]?=some (.cells (uc (limN 4 u50)) 61)):=hid (by rw [setRow_other _ _ _ _ (by have:=qab H9.out;omega)];exact qaa hv1 (qab H9.out) H9.out)
         have hb2:Below B w (v1.setRow (g10) (uc (limN 4 u100))):=below_setRow hb1 (by have:=qab H1.out;omega) _
         clear H1 H2 H9 hb1 hv1 hgs hb
         go_wp2_with (with_reducible refine wpList_store_row rfl 61 _ _ rfl (g10) (uc (limN 4 u100)) rfl rfl 61 _ HN.out I100.out Z100.out O100.out ?_)
         generalize World.setRow _ _ _=W8 at *;have H1:=kH1;have H2:=kH2;have H9:=kH9;have H10:=HNN;have hb:=hb2;clear kH1 kH2 kH9 HNN HN hb2 S8 M8
         try simp only [Act.put]
         refine qam 5 52 [.val (.agg (uc (limN 4 u100))) [(10,.pointer (some ⟨g10,0,none⟩))],.val (.agg (uc (limN 4 q9))) [(44,.agg (uc (limN 4 u100)))],.val (.agg (uc (limN 4 u100))) [(10,.pointer (some ⟨g10,0,none⟩))],.val (.agg (uc (limN 4 u200))) [(45,.agg (uc (limN 4 q9))),(46,.agg (uc (limN 4 u100)))],.fresh (.cells zeros4 61)] (by kernel_rfl) (by kernel_rfl) rfl ?_ ?_ ?_
         ·simp only [take_succ_cons,List.take_zero,qaL,qaK,HeadSpec.val,HeadSpec.fresh,and_true]
          refine ⟨?_,?_,?_,?_,?_⟩
          ·intro a w hb h
           have e0:=h (10,.pointer (some ⟨g10,0,none⟩)) (by simp)
           exact qae 61 (.tmp 10) rfl g10 e0 61 _ (0,0) _ (qaa hb (qab H10.out) H10.out) Tryz.underlying61 rfl I100.out
          ·intro a w hb h
           have e0:=h (44,.agg (uc (limN 4 u100))) (by simp)
           simp only [getD_eq_getD_getElem?] at e0
           simp [go_sem,e0,qac]
           exact S9.out w
          ·intro a w hb h
           have e0:=h (10,.pointer (some ⟨g10,0,none⟩)) (by simp)
           exact qae 61 (.tmp 10) rfl g10 e0 61 _ (0,0) _ (qaa hb (qab H10.out) H10.out) Tryz.underlying61 rfl I100.out
          ·intro a w hb h
           have e0:=h (45,.agg (uc (limN 4 q9))) (by simp)
           have e1:=h (46,.agg (uc (limN 4 u100))) (by simp)
           simp only [getD_eq_getD_getElem?] at e0 e1
           simp [go_sem,e0,e1,qac]
           exact M9.out w
          ·intro a w hb
           simp [go_sem,hz]
         ·simp [qau,qav,qaJ,HeadSpec.val,HeadSpec.fresh,Act.put]
         ·simp only [take_succ_cons,List.take_zero,drop_succ_cons,List.drop_zero,qaH,HeadSpec.val,HeadSpec.fresh,Act.put,setIfInBounds_toArray,set_cons_succ,set_cons_zero]
          intro g11 hgg11 _ v1 hv1 hgs
          have HN:=hid (show v1.heap[g11]?=some (.cells zeros4 61) from hgs (g11,.cells zeros4 61) (by simp))
          have hb1:Below B w v1:=hb.trans (hv1.mono (by have:=qab H1.out;omega))
          have HNN:=hid (setRow_heap v1 (g11) _ (uc (limN 4 u200)) _ _ HN.out)
          have kH1:Hid ((v1.setRow (g11) (uc (limN 4 u200))).heap[B]?=some (.cells (uc (limN 4 x)) 61)):=hid (by rw [setRow_other _ _ _ _ (by have:=qab H1.out;omega)];exact qaa hv1 (qab H1.out) H1.out)
          have kH2:Hid ((v1.setRow (g11) (uc (limN 4 u200))).heap[B+1]?=some (.cells zeros4 61)):=hid (by rw [setRow_other _ _ _ _ (by have:=qab H2.out;omega)];exact qaa hv1 (qab H2.out) H2.out)
          have kH9:Hid ((v1.setRow (g11) (uc (limN 4 u200))).heap[g9]?=some (.cells (uc (limN 4 u50)) 61)):=hid (by rw [setRow_other _ _ _ _ (by have:=qab H9.out;omega)];exact qaa hv1 (qab H9.out) H9.out)
          have hb2:Below B w (v1.setRow (g11) (uc (limN 4 u200))):=below_setRow hb1 (by have:=qab H1.out;omega) _
          clear H1 H2 H9 hb1 hv1 hgs hb
          go_wp2_with (with_reducible refine wpList_store_row rfl 61 _ _ rfl (g11) (uc (limN 4 u200)) rfl rfl 61 _ HN.out I200.out Z200.out O200.out ?_)
          generalize World.setRow _ _ _=W9 at *;have H1:=kH1;have H2:=kH2;have H9:=kH9;have H11:=HNN;have hb:=hb2;clear kH1 kH2 kH9 HNN HN hb2 S9 M9
          try simp only [Act.put]
          refine qam 4 52 [.val (.agg (uc (limN 4 u200))) [(11,.pointer (some ⟨g11,0,none⟩))],.val (.agg (uc (limN 4 q10))) [(48,.agg (uc (limN 4 u200)))],.val (.agg (uc (limN 4 u50))) [(9,.pointer (some ⟨g9,0,none⟩))],.val (.agg (uc (limN 4 u250))) [(49,.agg (uc (limN 4 q10))),(50,.agg (uc (limN 4 u50)))]] (by kernel_rfl) (by kernel_rfl) rfl ?_ ?_ ?_
          ·simp only [take_succ_cons,List.take_zero,qaL,qaK,HeadSpec.val,HeadSpec.fresh,and_true]
           refine ⟨?_,?_,?_,?_⟩
           ·intro a w hb h
            have e0:=h (11,.pointer (some ⟨g11,0,none⟩)) (by simp)
            exact qae 61 (.tmp 11) rfl g11 e0 61 _ (0,0) _ (qaa hb (qab H11.out) H11.out) Tryz.underlying61 rfl I200.out
           ·intro a w hb h
            have e0:=h (48,.agg (uc (limN 4 u200))) (by simp)
            simp only [getD_eq_getD_getElem?] at e0
            simp [go_sem,e0,qac]
            exact S10.out w
           ·intro a w hb h
            have e0:=h (9,.pointer (some ⟨g9,0,none⟩)) (by simp)
            exact qae 61 (.tmp 9) rfl g9 e0 61 _ (0,0) _ (qaa hb (qab H9.out) H9.out) Tryz.underlying61 rfl I50.out
           ·intro a w hb h
            have e0:=h (49,.agg (uc (limN 4 q10))) (by simp)
            have e1:=h (50,.agg (uc (limN 4 u50))) (by simp)
            simp only [getD_eq_getD_getElem?] at e0 e1
            simp [go_sem,e0,e1,qac]
            exact M10.out w
          ·simp [qau,qav,qaJ,HeadSpec.val,HeadSpec.fresh,Act.put]
          ·simp only [take_succ_cons,List.take_zero,drop_succ_cons,List.drop_zero,qaH,HeadSpec.val,HeadSpec.fresh,Act.put,setIfInBounds_toArray,set_cons_succ,set_cons_zero]
           intro v1 hv1 hgs;have HN:=hid (qaa hv1 (qab H2.out) H2.out)
           have hb1:Below B w v1:=hb.trans (hv1.mono (by have:=qab H1.out;omega))
           have HNN:=hid (setRow_heap v1 (B+1) _ (uc (limN 4 u250)) _ _ HN.out)
           have kH1:Hid ((v1.setRow (B+1) (uc (limN 4 u250))).heap[B]?=some (.cells (uc (limN 4 x)) 61)):=hid (by rw [setRow_other _ _ _ _ (by have:=qab H1.out;omega)];exact qaa hv1 (qab H1.out) H1.out)
           have hb2:Below B w (v1.setRow (B+1) (uc (limN 4 u250))):=below_setRow hb1 (by omega) _
           clear H1 hb1 hv1 hgs hb
           go_wp2_with (with_reducible refine wpList_store_row rfl 61 _ _ rfl (B+1) (uc (limN 4 u250)) rfl rfl 61 _ HN.out I250.out Z250.out O250.out ?_)
           exact bodyPost_ret (v:=.agg (uc (limN 4 u250))) (results_cell_row (by rfl) _ _ (B+1) 61 _ (0,0) _ rfl HNN.out Tryz.underlying61 rfl I250.out) rfl ⟨by rw [HU.out],by rw [HBB.out];exact hb2⟩
end
section
open Go.RowKit Go.Sort
def PrmQ (w:World):Prop:=∃ T fr,w.heap[0]?=some (.cells (uc (limN 4 pF)) T fr)
theorem PrmQ.lt {w:World} (h:PrmQ w):0 < w.heap.size:=by
 obtain ⟨T,fr,h⟩:=h;exact qab h
theorem PrmQ.below {w w':World} {B:Nat} (h:PrmQ w) (hb:Below B w w') (hB:0 < B):PrmQ w':=by
 obtain ⟨T,fr,h⟩:=h;exact ⟨T,fr,(hb.block _ hB).trans h⟩
theorem PrmQ.step {w w':World} (h:PrmQ w) (hb:Below w.heap.size w w'):PrmQ w':=h.below hb h.lt
theorem sub_fits (x y:Nat) (hx:x<pF) (hy:y<pF):x+pF-y<mF∧y≤x+pF∧(x+pF-y+0*mF)%pF=subF x y:=by
 have:=mF_pF
 refine ⟨by omega,by omega,?_⟩
 rw [subF,Nat.zero_mul,Nat.add_zero,show x+pF-y=x+(pF-y) by omega]
set_option maxHeartbeats 2000000 in
theorem qcO (x y:Nat) (w:World) (hx:x<pF) (hy:y<pF) (hT:PrmQ w) :
  Calls Tryz.prog 130 #[.agg (uc (limN 4 x)),.agg (uc (limN 4 y))] w fun e w'=>e=.returned (.agg (uc (limN 4 (subF x y))))∧Below w.heap.size w w':=by
 obtain ⟨hz,hi⟩:=zero_of_info qbO;have hTl:=hT.lt;have hb:=qbr w (.cells (uc (limN 4 x)) 61) (.cells (uc (limN 4 y)) 61) (.cells zeros4 61);have HP:=hid (hT.step hb);have H2:=hid (qaj (o:=.cells zeros4 61) (qaj (o:=.cells (uc (limN 4 y)) 61) (qag w (.cells (uc (limN 4 x)) 61))));have H3:=hid (qaj (o:=.cells zeros4 61) (qaw w (.cells (uc (limN 4 x)) 61) (.cells (uc (limN 4 y)) 61)));have H4:=hid (qbL w (.cells (uc (limN 4 x)) 61) (.cells (uc (limN 4 y)) 61) (.cells zeros4 61));have Ix:=hid (qcd (limN 4 x) (qad _ _));have Iy:=hid (qcd (limN 4 y) (qad _ _));have Ip:=hid (qcd (limN 4 pF) (qad _ _));have Ir:=hid (qak (subF x y));have Zr:=hid (qaq (subF x y));have Or:=hid (qar (limN 4 (subF x y)));obtain ⟨f1,f2,f3⟩:=sub_fits x y hx hy
 have C1:=hid (fun W=>plusL_any x pF W)
 have C2:=hid (fun W=>minusL_any (x+pF) y W f2)
 have C3:=hid (fun W=>qd5 (x+pF-y) 0 W f1 (by omega))
 rw [f3] at C3;clear hi hx hy f1 f2 f3 hT
 go_enter Tryz.func130,Tryz.ntmps130
 go_upto_region 1 with fail
 clear hz;generalize (((w.alloc _).alloc _).alloc _)=W0 at *;generalize hBB:w.heap.size=B at *;have HBB:=hid hBB;clear hBB;generalize x+pF-y=d at *;generalize x+pF=s at *;generalize hr:subF x y=r at *;have HRr:=hid hr;clear hr;obtain ⟨TP,fr,hP⟩:=HP.out;have HPr:=hid hP;clear HP hP;generalize limN 4 pF=P at *
 refine qam 8 13 [.val (.pointer (some ⟨B,0,none⟩)) [(2,.pointer (some ⟨B,0,none⟩))],.val (.agg (uc (limN 4 x))) [(5,.pointer (some ⟨B,0,none⟩))],.val (.agg (uc P)) [],.val (.agg (uc (limN 4 s))) [(6,.agg (uc (limN 4 x))),(7,.agg (uc P))],
  .val (.pointer (some ⟨B+1,0,none⟩)) [(3,.pointer (some ⟨B+1,0,none⟩))],.val (.agg (uc (limN 4 y))) [(9,.pointer (some ⟨B+1,0,none⟩))],.val (.agg (uc (limN 4 d))) [(8,.agg (uc (limN 4 s))),(10,.agg (uc (limN 4 y)))],.val (.agg (uc (limN 4 r))) [(11,.agg (uc (limN 4 d)))]]
  (by kernel_rfl) (by kernel_rfl) rfl ?_ ?_ ?_
 ·simp only [take_succ_cons,List.take_zero,qaL,qaK,HeadSpec.val,HeadSpec.fresh,and_true]
  refine ⟨?_,?_,?_,?_,?_,?_,?_,?_⟩
  ·intro a w hb h
   have e0:=h (2,.pointer (some ⟨B,0,none⟩)) (by simp)
   simp only [getD_eq_getD_getElem?] at e0
   simp [go_sem,e0,qac]
  ·intro a w hb h
   have e0:=h (5,.pointer (some ⟨B,0,none⟩)) (by simp)
   exact qae 59 (.tmp 5) rfl B e0 61 _ (0,0) _ (qaa hb (qab H2.out) H2.out) Tryz.underlying59 rfl Ix.out
  ·intro a w hb h
   exact qae 59 (.global 0) rfl 0 rfl TP _ fr _ (qaa hb (qab HPr.out) HPr.out) Tryz.underlying59 rfl Ip.out
  ·intro a w hb h
   have e0:=h (6,.agg (uc (limN 4 x))) (by simp)
   have e1:=h (7,.agg (uc P)) (by simp)
   simp only [getD_eq_getD_getElem?] at e0 e1
   simp [go_sem,e0,e1,qac]
   exact C1.out w
  ·intro a w hb h
   have e0:=h (3,.pointer (some ⟨B+1,0,none⟩)) (by simp)
   simp only [getD_eq_getD_getElem?] at e0
   simp [go_sem,e0,qac]
  ·intro a w hb h
   have e0:=h (9,.pointer (some ⟨B+1,0,none⟩)) (by simp)
   exact qae 59 (.tmp 9) rfl (B+1) e0 61 _ (0,0) _ (qaa hb (qab H3.out) H3.out) Tryz.underlying59 rfl Iy.out
  ·intro a w hb h
   have e0:=h (8,.agg (uc (limN 4 s))) (by simp)
   have e1:=h (10,.agg (uc (limN 4 y))) (by simp)
   simp only [getD_eq_getD_getElem?] at e0 e1
   simp [go_sem,e0,e1,qac]
   exact C2.out w
  ·intro a w hb h
   have e0:=h (11,.agg (uc (limN 4 d))) (by simp)
   simp only [getD_eq_getD_getElem?] at e0
   simp [go_sem,e0,qac]
   exact C3.out w
 ·simp [qau,qav,qaJ,HeadSpec.val,HeadSpec.fresh,Act.put]
 ·simp only [take_succ_cons,List.take_zero,drop_succ_cons,List.drop_zero,qaH,HeadSpec.val,HeadSpec.fresh,Act.put,setIfInBounds_toArray,set_cons_succ,set_cons_zero]
  intro v1 hv1 hgs;have HN:=hid (qaa hv1 (qab H4.out) H4.out)
  have hb1:Below B w v1:=hb.trans (hv1.mono (by have:=qab H4.out;omega))
  have HNN:=hid (setRow_heap v1 (B+1+1) _ (uc (limN 4 r)) _ _ HN.out)
  have hb2:Below B w (v1.setRow (B+1+1) (uc (limN 4 r))):=below_setRow hb1 (by omega) _
  clear H2 H3 H4 hb1 hv1 hgs hb
  go_wp2_with (with_reducible refine wpList_store_row rfl 61 _ _ rfl (B+1+1) (uc (limN 4 r)) rfl rfl 61 _ HN.out Ir.out Zr.out Or.out ?_)
  exact bodyPost_ret (v:=.agg (uc (limN 4 r))) (results_cell_row (by rfl) _ _ (B+1+1) 61 _ (0,0) _ rfl HNN.out Tryz.underlying61 rfl Ir.out) rfl ⟨by rw [HRr.out],by rw [HBB.out];exact hb2⟩
end
section
open Go.RowKit Go.Sort
theorem qeQ:zeros4=uc (limN 4 0):=rfl
set_option maxHeartbeats 1000000 in
theorem qb1 (n:Nat) (w:World) (h:n<9223372036854775808) :
  Calls Tryz.prog 131 #[.int .i64 (n:Int)] w fun e w'=>e=.returned (.agg (uc (limN 4 n)))∧Below w.heap.size w w':=by
 obtain ⟨hz,hi⟩:=zero_of_info qbO
 have hd:decide ((n:Int)<0)=false:=by simp
 have hc:(n:Int)%18446744073709551616=(n:Int):=by omega
 have HN:=hid (show n<18446744073709551616 by omega)
 have HL:=hid (qad 4 n);have HR0:=hid (qag w (.cells zeros4 61));have hb0:=qah w (.cells zeros4 61);have HI:=hid (qak n);have HZ:=hid (qaq n);have HO:=hid (qar (limN 4 n));clear hi
 go_enter Tryz.func131,Tryz.ntmps131
 go_wp2_with (first
  | (with_reducible refine wpList_build_one rfl _ rfl n HN.out rfl ?_)
  | (with_reducible refine qe9 rfl _ rfl (limN 4 n) HL.out rfl ?_)
  | (with_reducible refine wpList_store_row rfl 61 _ _ rfl w.heap.size (uc (limN 4 n)) rfl rfl 61 _ HR0.out HI.out HZ.out HO.out ?_))
 exact bodyPost_ret (v:=.agg (uc (limN 4 n))) (results_cell_row (by rfl) _ _ w.heap.size 61 _ (0,0) _ rfl (setRow_heap _ _ _ _ _ _ HR0.out) Tryz.underlying61 rfl HI.out) rfl ⟨rfl,below_setRow hb0 (Nat.le_refl _) _⟩
def qcP (x:Nat):Nat:=if x%2=1 then subF 0 x else x
theorem and_one (x:Nat):bits .and .u64 ((dg x 0:Nat):Int) 1=((x%2:Nat):Int):=by
 have h:=dg_lt x 0
 have h1:(BitVec.ofInt 64 1).toNat=2^1-1:=by decide
 have key:(BitVec.ofInt 64 ((dg x 0:Nat):Int) &&& BitVec.ofInt 64 1).toNat=dg x 0%2:=by
  rw [BitVec.toNat_and,BitVec.toNat_ofInt,h1,Nat.and_two_pow_sub_one_eq_mod]
  omega
 show IntKind.u64.wrap ((BitVec.ofInt 64 ((dg x 0:Nat):Int) &&& BitVec.ofInt 64 1).toNat:Nat)=_
 rw [key,dg_odd,IntKind.wrap_u64]
 omega
set_option maxHeartbeats 1000000 in
theorem even_any (x:Nat) (w:World) (hx:x<pF) (hT:PrmQ w) :
  Calls Tryz.prog 216 #[.agg (uc (limN 4 x))] w fun e w'=>e=.returned (.agg (uc (limN 4 (qcP x))))∧Below w.heap.size w w':=by
 obtain ⟨hz,hi⟩:=zero_of_info qbO;have HG0:=hid (qaj (o:=.cells zeros4 61) (qag w (.cells (uc (limN 4 x)) 61)));have HR0:=hid (qaw w (.cells (uc (limN 4 x)) 61) (.cells zeros4 61));have hb0:=qaP w (.cells (uc (limN 4 x)) 61) (.cells zeros4 61);have HP0:=hid (hT.step hb0)
 have HC:=hid (fun W hW=>qcO 0 x W qc8 hx hW)
 rw [← qeQ] at HC;have eA:=and_one x;have HIx:=hid (qak x);have HI:=hid (qak (qcP x));have HZ:=hid (qaq (qcP x));have HO:=hid (qar (limN 4 (qcP x)));clear hi hT
 go_enter Tryz.func216,Tryz.ntmps216
 go_upto_region 1 with fail
 clear hz;generalize ((w.alloc _).alloc _)=W0 at *;generalize hBB:w.heap.size=B at *;have HBB:=hid hBB;clear hBB
 have c0:=qbI HG0.out 0 (by rw [qad];decide)
 rw [qbc _ _ _ (by decide)] at c0
 by_cases hodd:x%2=1
 ·have hE:qcP x=subF 0 x:=if_pos hodd
  have hd1:(((x%2:Nat):Int)==1)=true:=by rw [hodd];rfl
  rw [hE] at HI HZ HO;have HE:=hid hE;generalize x%2=b at *;clear hE;generalize subF 0 x=r at *;clear hodd
  go_wp2_with (first
   | (with_reducible refine qeL rfl rfl ?_)
   | (with_reducible refine wpList_load_row rfl 61 _ rfl B rfl 61 _ (0,0) _ HG0.out Tryz.underlying61 rfl HIx.out ?_))
  clear eA c0 hd1
  refine (HC.out W0 HP0.out).mono ?_
  rintro e W1 ⟨rfl,h1⟩;have HR1:=hid (qaa h1 (qab HR0.out) HR0.out)
  have hb1:Below B w W1:=hb0.trans (h1.mono (by have:=qab HR0.out;omega))
  clear HC HR0 HG0 hb0 h1
  go_wp2_with (with_reducible refine wpList_store_row rfl 61 _ _ rfl (B+1) (uc (limN 4 r)) rfl rfl 61 _ HR1.out HI.out HZ.out HO.out ?_)
  exact bodyPost_ret (v:=.agg (uc (limN 4 r))) (results_cell_row (by rfl) _ _ (B+1) 61 _ (0,0) _ rfl (setRow_heap _ _ _ _ _ _ HR1.out) Tryz.underlying61 rfl HI.out) rfl ⟨by rw [HE.out],by rw [HBB.out];exact below_setRow hb1 (by omega) _⟩
 ·have hE:qcP x=x:=if_neg hodd
  have hd1:(((x%2:Nat):Int)==1)=false:=by
   have:x%2=0:=by omega
   rw [this];rfl
  rw [hE] at HI HZ HO;have HE:=hid hE;generalize x%2=b at *;clear hE hodd HC
  go_wp2_with (first
   | (with_reducible refine wpList_load_row rfl 61 _ rfl B rfl 61 _ (0,0) _ HG0.out Tryz.underlying61 rfl HIx.out ?_)
   | (with_reducible refine wpList_store_row rfl 61 _ _ rfl (B+1) (uc (limN 4 x)) rfl rfl 61 _ HR0.out HI.out HZ.out HO.out ?_))
  exact bodyPost_ret (v:=.agg (uc (limN 4 x))) (results_cell_row (by rfl) _ _ (B+1) 61 _ (0,0) _ rfl (setRow_heap _ _ _ _ _ _ HR0.out) Tryz.underlying61 rfl HI.out) rfl ⟨by rw [HE.out],by rw [HBB.out];exact below_setRow hb0 (by omega) _⟩
end
section
open Go.RowKit Go.Sort
theorem inv_eleven (x:Nat) (hx:x<pF):mulF (powF x (2^2)) x=powF x 5∧mulF (powF (powF x 5) (2^1)) x=powF x 11:=by
 have h1:∀ n,mulF (powF x n) x=powF x (n+1):=fun n=>by
  have:=qer x n 1
  rwa [powF_one x hx] at this
 exact ⟨h1 4,by rw [qfa,h1]⟩
theorem inv_done (x:Nat):mulF (powF (qao x 250) (2^5)) (powF x 11)=invF x:=by
 rw [qao,qfa,qer,show (2^250-1)*2^5+11=pF-2 by decide]
 rfl
theorem rmo_done:mulF (powF (qao 2 250) (2^3)) 8=powF 2 ((pF-1) / 4):=by
 have h8:powF 2 3=8:=by decide
 have:=qer 2 ((2^250-1)*2^3) 3
 rw [h8,← qfa] at this
 rw [qao,this,show (2^250-1)*2^3+3=(pF-1) / 4 by decide]
set_option maxHeartbeats 2000000 in
theorem invF_any (x:Nat) (w:World) (hx:x<pF) :
  Calls Tryz.prog 97 #[.agg (uc (limN 4 x))] w fun e w'=>e=.returned (.agg (uc (limN 4 (invF x))))∧Below w.heap.size w w':=by
 obtain ⟨hz,hi⟩:=zero_of_info qbO;have H1:=hid (qaj (o:=.cells zeros4 61) (qag w (.cells (uc (limN 4 x)) 61)));have H2:=hid (qaw w (.cells (uc (limN 4 x)) 61) (.cells zeros4 61));have hb:=qaP w (.cells (uc (limN 4 x)) 61) (.cells zeros4 61);obtain ⟨e5,e11⟩:=inv_eleven x hx
 have S1:=hid (fun W=>qaV x 2 W hx (by omega))
 have M1:=hid (fun W=>qaN (powF x (2^2)) x W (qaU _ _) hx)
 have S2:=hid (fun W=>qaV (powF x 5) 1 W (qaU _ _) (by omega))
 have M2:=hid (fun W=>qaN (powF (powF x 5) (2^1)) x W (qaU _ _) hx)
 have C:=hid (fun W=>ones_any x W hx)
 have S3:=hid (fun W=>qaV (qao x 250) 5 W (qbd _ _) (by omega))
 have M3:=hid (fun W=>qaN (powF (qao x 250) (2^5)) (powF x 11) W (qaU _ _) (qaU _ _))
 rw [e5] at M1;rw [e11] at M2;rw [inv_done] at M3;have I1:=hid (qak x);have I11:=hid (qak (powF x 11));have Z11:=hid (qaq (powF x 11));have O11:=hid (qar (limN 4 (powF x 11)));have Ir:=hid (qak (invF x));have Zr:=hid (qaq (invF x));have Or:=hid (qar (limN 4 (invF x)));clear hi hx e5 e11
 go_enter Tryz.func97,Tryz.ntmps97
 go_upto_region 1 with fail
 generalize ((w.alloc _).alloc _)=W0 at *;generalize hBB:w.heap.size=B at *;have HBB:=hid hBB;clear hBB;generalize hr:invF x=r at *;have HU:=hid hr;clear hr;generalize powF (powF x 5) (2^1)=q2 at *;generalize powF (qao x 250) (2^5)=q3 at *;generalize powF x 11=u11 at *;generalize powF x (2^2)=q1 at *;generalize powF x 5=u5 at *;generalize qao x 250=u250 at *
 refine qam 8 16 [.val (.agg (uc (limN 4 x))) [(1,.pointer (some ⟨B,0,none⟩))],.val (.agg (uc (limN 4 q1))) [(4,.agg (uc (limN 4 x)))],.val (.agg (uc (limN 4 x))) [(1,.pointer (some ⟨B,0,none⟩))],.val (.agg (uc (limN 4 u5))) [(5,.agg (uc (limN 4 q1))),(6,.agg (uc (limN 4 x)))],.val (.agg (uc (limN 4 q2))) [(7,.agg (uc (limN 4 u5)))],.val (.agg (uc (limN 4 x))) [(1,.pointer (some ⟨B,0,none⟩))],.val (.agg (uc (limN 4 u11))) [(8,.agg (uc (limN 4 q2))),(9,.agg (uc (limN 4 x)))],.fresh (.cells zeros4 61)] (by kernel_rfl) (by kernel_rfl) rfl ?_ ?_ ?_
 ·simp only [take_succ_cons,List.take_zero,qaL,qaK,HeadSpec.val,HeadSpec.fresh,and_true]
  refine ⟨?_,?_,?_,?_,?_,?_,?_,?_⟩
  ·intro a w hb h
   have e0:=h (1,.pointer (some ⟨B,0,none⟩)) (by simp)
   exact qae 61 (.tmp 1) rfl B e0 61 _ (0,0) _ (qaa hb (qab H1.out) H1.out) Tryz.underlying61 rfl I1.out
  ·intro a w hb h
   have e0:=h (4,.agg (uc (limN 4 x))) (by simp)
   simp only [getD_eq_getD_getElem?] at e0
   simp [go_sem,e0,qac]
   exact S1.out w
  ·intro a w hb h
   have e0:=h (1,.pointer (some ⟨B,0,none⟩)) (by simp)
   exact qae 61 (.tmp 1) rfl B e0 61 _ (0,0) _ (qaa hb (qab H1.out) H1.out) Tryz.underlying61 rfl I1.out
  ·intro a w hb h
   have e0:=h (5,.agg (uc (limN 4 q1))) (by simp)
   have e1:=h (6,.agg (uc (limN 4 x))) (by simp)
   simp only [getD_eq_getD_getElem?] at e0 e1
   simp [go_sem,e0,e1,qac]
   exact M1.out w
  ·intro a w hb h
   have e0:=h (7,.agg (uc (limN 4 u5))) (by simp)
   simp only [getD_eq_getD_getElem?] at e0
   simp [go_sem,e0,qac]
   exact S2.out w
  ·intro a w hb h
   have e0:=h (1,.pointer (some ⟨B,0,none⟩)) (by simp)
   exact qae 61 (.tmp 1) rfl B e0 61 _ (0,0) _ (qaa hb (qab H1.out) H1.out) Tryz.underlying61 rfl I1.out
  ·intro a w hb h
   have e0:=h (8,.agg (uc (limN 4 q2))) (by simp)
   have e1:=h (9,.agg (uc (limN 4 x))) (by simp)
   simp only [getD_eq_getD_getElem?] at e0 e1
   simp [go_sem,e0,e1,qac]
   exact M2.out w
  ·intro a w hb
   simp [go_sem,hz]
 ·simp [qau,qav,qaJ,HeadSpec.val,HeadSpec.fresh,Act.put]
 ·simp only [take_succ_cons,List.take_zero,drop_succ_cons,List.drop_zero,qaH,HeadSpec.val,HeadSpec.fresh,Act.put,setIfInBounds_toArray,set_cons_succ,set_cons_zero]
  intro g3 hgg3 _ v1 hv1 hgs
  have HN:=hid (show v1.heap[g3]?=some (.cells zeros4 61) from hgs (g3,.cells zeros4 61) (by simp))
  have hb1:Below B w v1:=hb.trans (hv1.mono (by have:=qab H1.out;omega))
  have HNN:=hid (setRow_heap v1 (g3) _ (uc (limN 4 u11)) _ _ HN.out)
  have kH1:Hid ((v1.setRow (g3) (uc (limN 4 u11))).heap[B]?=some (.cells (uc (limN 4 x)) 61)):=hid (by rw [setRow_other _ _ _ _ (by have:=qab H1.out;omega)];exact qaa hv1 (qab H1.out) H1.out)
  have kH2:Hid ((v1.setRow (g3) (uc (limN 4 u11))).heap[B+1]?=some (.cells zeros4 61)):=hid (by rw [setRow_other _ _ _ _ (by have:=qab H2.out;omega)];exact qaa hv1 (qab H2.out) H2.out)
  have hb2:Below B w (v1.setRow (g3) (uc (limN 4 u11))):=below_setRow hb1 (by have:=qab H1.out;omega) _
  clear H1 H2 hb1 hv1 hgs hb
  go_wp2_with (with_reducible refine wpList_store_row rfl 61 _ _ rfl (g3) (uc (limN 4 u11)) rfl rfl 61 _ HN.out I11.out Z11.out O11.out ?_)
  generalize World.setRow _ _ _=W1 at *;have H1:=kH1;have H2:=kH2;have H3:=HNN;have hb:=hb2;clear kH1 kH2 HNN HN hb2 S1 M1 S2 M2
  try simp only [Act.put]
  refine qam 5 16 [.val (.agg (uc (limN 4 x))) [(1,.pointer (some ⟨B,0,none⟩))],.val (.agg (uc (limN 4 u250))) [(11,.agg (uc (limN 4 x)))],.val (.agg (uc (limN 4 q3))) [(12,.agg (uc (limN 4 u250)))],.val (.agg (uc (limN 4 u11))) [(3,.pointer (some ⟨g3,0,none⟩))],.val (.agg (uc (limN 4 r))) [(13,.agg (uc (limN 4 q3))),(14,.agg (uc (limN 4 u11)))]] (by kernel_rfl) (by kernel_rfl) rfl ?_ ?_ ?_
  ·simp only [take_succ_cons,List.take_zero,qaL,qaK,HeadSpec.val,HeadSpec.fresh,and_true]
   refine ⟨?_,?_,?_,?_,?_⟩
   ·intro a w hb h
    have e0:=h (1,.pointer (some ⟨B,0,none⟩)) (by simp)
    exact qae 61 (.tmp 1) rfl B e0 61 _ (0,0) _ (qaa hb (qab H1.out) H1.out) Tryz.underlying61 rfl I1.out
   ·intro a w hb h
    have e0:=h (11,.agg (uc (limN 4 x))) (by simp)
    simp only [getD_eq_getD_getElem?] at e0
    simp [go_sem,e0,qac]
    exact C.out w
   ·intro a w hb h
    have e0:=h (12,.agg (uc (limN 4 u250))) (by simp)
    simp only [getD_eq_getD_getElem?] at e0
    simp [go_sem,e0,qac]
    exact S3.out w
   ·intro a w hb h
    have e0:=h (3,.pointer (some ⟨g3,0,none⟩)) (by simp)
    exact qae 61 (.tmp 3) rfl g3 e0 61 _ (0,0) _ (qaa hb (qab H3.out) H3.out) Tryz.underlying61 rfl I11.out
   ·intro a w hb h
    have e0:=h (13,.agg (uc (limN 4 q3))) (by simp)
    have e1:=h (14,.agg (uc (limN 4 u11))) (by simp)
    simp only [getD_eq_getD_getElem?] at e0 e1
    simp [go_sem,e0,e1,qac]
    exact M3.out w
  ·simp [qau,qav,qaJ,HeadSpec.val,HeadSpec.fresh,Act.put]
  ·simp only [take_succ_cons,List.take_zero,drop_succ_cons,List.drop_zero,qaH,HeadSpec.val,HeadSpec.fresh,Act.put,setIfInBounds_toArray,set_cons_succ,set_cons_zero]
   intro v1 hv1 hgs;have HN:=hid (qaa hv1 (qab H2.out) H2.out)
   have hb1:Below B w v1:=hb.trans (hv1.mono (by have:=qab H1.out;omega))
   have HNN:=hid (setRow_heap v1 (B+1) _ (uc (limN 4 r)) _ _ HN.out)
   have kH1:Hid ((v1.setRow (B+1) (uc (limN 4 r))).heap[B]?=some (.cells (uc (limN 4 x)) 61)):=hid (by rw [setRow_other _ _ _ _ (by have:=qab H1.out;omega)];exact qaa hv1 (qab H1.out) H1.out)
   have hb2:Below B w (v1.setRow (B+1) (uc (limN 4 r))):=below_setRow hb1 (by omega) _
   clear H1 hb1 hv1 hgs hb
   go_wp2_with (with_reducible refine wpList_store_row rfl 61 _ _ rfl (B+1) (uc (limN 4 r)) rfl rfl 61 _ HN.out Ir.out Zr.out Or.out ?_)
   exact bodyPost_ret (v:=.agg (uc (limN 4 r))) (results_cell_row (by rfl) _ _ (B+1) 61 _ (0,0) _ rfl HNN.out Tryz.underlying61 rfl Ir.out) rfl ⟨by rw [HU.out],by rw [HBB.out];exact hb2⟩
set_option maxHeartbeats 1000000 in
theorem rmo_any (w:World) :
  Calls Tryz.prog 215 #[] w fun e w'=>e=.returned (.agg (uc (limN 4 (powF 2 ((pF-1) / 4)))))∧Below w.heap.size w w':=by
 obtain ⟨hz,hi⟩:=zero_of_info qbO
 have h2:2<pF:=by decide
 have h8:8<pF:=by decide
 have HR0:=hid (qag w (.cells zeros4 61));have hb0:=qah w (.cells zeros4 61)
 have C1:=hid (fun W=>qb1 2 W (by omega))
 have C2:=hid (fun W=>ones_any 2 W h2)
 have C3:=hid (fun W=>qaV (qao 2 250) 3 W (qbd _ _) (by omega))
 have C4:=hid (fun W=>qb1 8 W (by omega))
 have C5:=hid (fun W=>qaN (powF (qao 2 250) (2^3)) 8 W (qaU _ _) h8)
 rw [rmo_done] at C5;generalize hr:powF 2 ((pF-1) / 4)=r at *;have HU:=hid hr;have Ir:=hid (qak r);have Zr:=hid (qaq r);have Or:=hid (qar (limN 4 r));generalize powF (qao 2 250) (2^3)=q at *;generalize qao 2 250=u at *;generalize limN 4 2=l2 at *;generalize limN 4 8=l8 at *;clear hi hr h2 h8
 go_enter Tryz.func215,Tryz.ntmps215
 go_upto_region 1 with fail
 clear hz;generalize (w.alloc _)=W0 at *;generalize hBB:w.heap.size=B at *;have HBB:=hid hBB;clear hBB
 go_wp2_with fail
 refine (C1.out W0).mono ?_
 rintro e W1 ⟨rfl,h1⟩
 go_wp2_with fail
 refine (C2.out W1).mono ?_
 rintro e W2 ⟨rfl,h2⟩
 go_wp2_with fail
 refine (C3.out W2).mono ?_
 rintro e W3 ⟨rfl,h3⟩
 go_wp2_with fail
 refine (C4.out W3).mono ?_
 rintro e W4 ⟨rfl,h4⟩
 go_wp2_with fail
 refine (C5.out W4).mono ?_
 rintro e W5 ⟨rfl,h5⟩;have t2:=h1.trans (h2.mono h1.size);have t3:=t2.trans (h3.mono t2.size);have t4:=t3.trans (h4.mono t3.size);have t5:=t4.trans (h5.mono t4.size);have HR1:=hid (qaa t5 (qab HR0.out) HR0.out)
 have hb1:Below B w W5:=hb0.trans (t5.mono (by have:=qab HR0.out;omega))
 clear h1 h2 h3 h4 h5 t2 t3 t4 t5 C1 C2 C3 C4 C5
 go_wp2_with (with_reducible refine wpList_store_row rfl 61 _ _ rfl B (uc (limN 4 r)) rfl rfl 61 _ HR1.out Ir.out Zr.out Or.out ?_)
 exact bodyPost_ret (v:=.agg (uc (limN 4 r))) (results_cell_row (by rfl) _ _ B 61 _ (0,0) _ rfl (setRow_heap _ _ _ _ _ _ HR1.out) Tryz.underlying61 rfl Ir.out) rfl ⟨rfl,by rw [HBB.out];exact below_setRow hb1 (Nat.le_refl _) _⟩
end
section
open Go.RowKit Go.Sort
theorem part_limb (l:List Nat) (h:l.length=4) (i:Nat) (hi:i<4) (w:World):(part 57 (uc l) (i*Tryz.prog.cellsOf 57)).run Tryz.prog w=.ok (.int .u64 ((l.getD i 0:Nat):Int)) w:=by
 rw [show Tryz.prog.cellsOf 57=1 from by kernel_rfl,Nat.mul_one]
 exact run_part_plain w (by kernel_rfl) (nc_get .u64 l i (by omega))
theorem infoU:∃ i,Tryz.prog.info? 57=some i:=by
 cases h:Tryz.prog.info? 57 with
 | none=>exact absurd (show (Tryz.prog.info? 57).isSome=true from by kernel_rfl) (by rw [h];simp)
 | some i=>exact ⟨i,rfl⟩
theorem limbs_eq (l m:List Nat) (hl:l.length=4) (hm:m.length=4) (k:Nat) (w:World):(Op.equalIn (k+2) 59 (.agg (uc l)) (.agg (uc m))).run Tryz.prog w=.ok (decide (l=m)) w:=by
 obtain ⟨i,hi⟩:=infoU;rw [run_equalIn_array w (k+1) (uc l) (uc m) Tryz.underlying59 hi]
 have e:∀ (a b:Int) (w:World),(Op.equalIn (k+1) 57 (.int .u64 a) (.int .u64 b)).run Tryz.prog w=.ok (a==b) w:=fun a b w=>run_equalIn_int w k 57 .u64 .u64 a b Tryz.underlying57
 obtain ⟨a,b,c,d,rfl⟩:∃ a b c d,l=[a,b,c,d]:=by
  match l,hl with
  | [a,b,c,d],_=>exact ⟨a,b,c,d,rfl⟩
 obtain ⟨p,q,r,s,rfl⟩:∃ a b c d,m=[a,b,c,d]:=by
  match m,hm with
  | [a,b,c,d],_=>exact ⟨a,b,c,d,rfl⟩
 have P:=part_limb [a,b,c,d] rfl;have Q:=part_limb [p,q,r,s] rfl
 simp only [show List.range 4=[0,1,2,3] from rfl,Op.eqItems,Sem.run_bind,Sem.run_ite,Sem.run_pure,P 0 (by decide),P 1 (by decide),P 2 (by decide),P 3 (by decide),Q 0 (by decide),Q 1 (by decide),Q 2 (by decide),Q 3 (by decide),Result.andThen_ok,e]
 by_cases h1:a=p
 ·by_cases h2:b=q
  ·by_cases h3:c=r
   ·by_cases h4:d=s
    ·simp [h1,h2,h3,h4]
    ·simp [h1,h2,h3,h4];intros;omega
   ·simp [h1,h2,h3];intros;omega
  ·simp [h1,h2];intros;omega
 ·simp [h1];intros;omega
theorem part_num (l:List Nat) (h:l.length=4) (w:World):(part 59 (uc l) 0).run Tryz.prog w=.ok (.agg (uc l)) w:=by
 unfold part;rw [Sem.run_bind]
 have hagg:(isAgg 59).run Tryz.prog w=.ok true w:=by
  unfold isAgg;rw [Sem.run_bind,run_underlying Tryz.underlying59 w]
  rfl
 have hsz:(sizeOf 59).run Tryz.prog w=.ok 4 w:=by
  have h4:=(zero_of_info infoL).2
  cases hq:Tryz.prog.info? 59 with
  | none=>simp [hq] at h4
  | some i=>simp [hq] at h4;simp [sizeOf,typeInfo,hq,h4]
 have he:(uc l).extract 0 4=uc l:=by
  have:=qaY l
  rw [h] at this;rw [← this]
  simp
 simp [hagg,hsz,he]
theorem num_eq (l m:List Nat) (hl:l.length=4) (hm:m.length=4) (w:World):(Op.equalIn 10000 61 (.agg (uc l)) (.agg (uc m))).run Tryz.prog w=.ok (decide (l=m)) w:=by
 have hf:(Tryz.prog.fieldsOf 61).toList.map (fun f=>(f.name== "_",f.type,f.offset))=[(false, 59,0)]:=by kernel_rfl
 rw [run_equalIn_agg w 9999 61 _ _ (by kernel_rfl) (by kernel_rfl)]
 generalize (Tryz.prog.fieldsOf 61).toList=fs at hf ⊢
 cases fs with
 | nil=>simp at hf
 | cons f fs=>
  cases fs with
  | cons g fs=>simp at hf
  | nil=>
   simp only [List.map_cons,List.map_nil,List.cons.injEq,Prod.mk.injEq,and_true] at hf
   obtain ⟨h1,h2,h3⟩:=hf
   have h1':f.name≠ "_":=by simpa using h1
   simp only [Op.eqFields,h1',ne_eq,not_false_eq_true,if_true,h2,h3,Sem.run_bind,Sem.run_ite,Sem.run_pure,part_num l hl,part_num m hm,Result.andThen_ok,limbs_eq l m hl hm 9997]
   cases decide (l=m) <;> rfl
end
section
open Go.RowKit Go.Sort
theorem powF_two (x:Nat):powF x (2^1)=mulF x x:=by rw [powF,mulF,show 2^1=2 from rfl,Nat.pow_succ,Nat.pow_one]
theorem root_first (x:Nat):mulF (powF (qao x 250) (2^2)) (powF x (2^1))=qa7 x:=by
 rw [qao,qfa,qer,show (2^250-1)*2^2+2^1=(pF+3) / 8 by decide]
 rfl
theorem lim_same (x y:Nat) (hx:x<pF) (hy:y<pF):decide (limN 4 x=limN 4 y)=decide (x=y):=by
 by_cases h:x=y
 ·simp [h]
 ·have:limN 4 x≠limN 4 y:=fun e=>h (limN_inj x y (Nat.lt_trans hx qdK) (Nat.lt_trans hy qdK) e)
  simp [h,this]
theorem qeG {ops:Array Oper} {rest:List Oper} {o:Oper} {a:Act} {w:World} {Q:Exit→Act→World→Prop} (hg:o.guard=none) (ho:o.op=.build 61 #[])
  (h:wpList Tryz.prog ops Q rest (a.put o.dst (.agg (uc (limN 4 0)))) w):wpList Tryz.prog ops Q (o :: rest) a w:=qeL hg ho (by rw [qeQ];exact h)
theorem qeH {ops:Array Oper} {w:World} {Q:Act→Prop} {a:Act} {o:Oper} {rest:List Oper} (hw:Region.wanted o (yielded ops a.tmps)=true) (x y:Operand) (ho:o.op=.binOp .neq 61 x y 61) (l m:List Nat) (b:Bool)
  (hl:l.length=4) (hm:m.length=4) (hx:a.eval x=.agg (uc l)) (hy:a.eval y=.agg (uc m)) (hb:(!decide (l=m))=b)
  (h:wpQuiet Tryz.prog ops (fun w'=>∃ p:Regrown,w'=grow (redrawn w p.d) p.os) Q rest (a.put o.dst (.bool b))):wpQuiet Tryz.prog ops (fun w'=>∃ p:Regrown,w'=grow (redrawn w p.d) p.os) Q (o :: rest) a:=by
 refine BigFrame.wpQuiet_want hw fun K hK=>⟨.bool b,fun w' hw'=>?_,hK _ h⟩
 have e1:(eqGuard .neq 61 x y (.agg (uc l)) (.agg (uc m))).run Tryz.prog w'=.ok () w':=run_eqGuard_agg w' .neq 61 x y _ _ (by kernel_rfl)
 have e2:(binOp .neq 61 (.agg (uc l)) (.agg (uc m))).run Tryz.prog w'=.ok (.bool b) w':=by
  rw [run_neq_struct,num_eq l m hl hm]
  simp only [Result.andThen_ok,hb]
 unfold Oper.quietAt execOp
 simp only [ho,hx,hy,Sem.run_bind,e1,e2,Result.andThen_ok]
 exact ⟨rfl,rfl⟩
theorem rootF_same (x:Nat) (h:mulF (qa7 x) (qa7 x)=x):qa6 x=(qcP (qa7 x),true):=by
 have hy:qa8 x=qa7 x:=if_pos h;rw [qa6,hy,if_pos h]
 rfl
theorem rootF_other (x:Nat) (h:¬ mulF (qa7 x) (qa7 x)=x):mulF (qa7 x) (powF 2 ((pF-1) / 4))=qa8 x:=(if_neg h).symm
theorem rootF_yes (x:Nat) (h:mulF (qa8 x) (qa8 x)=x):qa6 x=(qcP (qa8 x),true):=by rw [qa6,if_pos h];rfl
theorem rootF_no (x:Nat) (h:¬ mulF (qa8 x) (qa8 x)=x):qa6 x=(0,false):=by rw [qa6,if_neg h]
theorem rootX_lt (x:Nat):qa7 x<pF:=qaU _ _
set_option maxHeartbeats 4000000 in
theorem rootF_any (x:Nat) (w:World) (hx:x<pF) (hT:PrmQ w) :
  Calls Tryz.prog 185 #[.agg (uc (limN 4 x))] w fun e w'=>e=.returned (.tuple #[.agg (uc (limN 4 (qa6 x).1)),.bool (qa6 x).2])∧Below w.heap.size w w':=by
 obtain ⟨hz,hi⟩:=zero_of_info qbO;have H1:=hid (qaj (o:=.cells zeros4 61) (qag w (.cells (uc (limN 4 x)) 61)));have H2:=hid (qaw w (.cells (uc (limN 4 x)) 61) (.cells zeros4 61));have hb:=qaP w (.cells (uc (limN 4 x)) 61) (.cells zeros4 61)
 have HP:=hid (show PrmQ w from hT)
 have HPl:=hid hT.lt
 have C:=hid (fun W=>ones_any x W hx)
 have S1:=hid (fun W=>qaV (qao x 250) 2 W (qbd _ _) (by omega))
 have S2:=hid (fun W=>qaV x 1 W hx (by omega))
 have M1:=hid (fun W=>qaN (powF (qao x 250) (2^2)) (powF x (2^1)) W (qaU _ _) (qaU _ _))
 have S3:=hid (fun W=>qaV (qa7 x) 1 W (rootX_lt x) (by omega))
 have S4:=hid (fun W=>qaV (qa8 x) 1 W (rootY_lt x) (by omega))
 have R:=hid (fun W=>rmo_any W)
 have M2:=hid (fun W=>qaN (qa7 x) (powF 2 ((pF-1) / 4)) W (rootX_lt x) (qaU _ _))
 have E1:=hid (fun W hW=>even_any (qa7 x) W (rootX_lt x) hW)
 have E2:=hid (fun W hW=>even_any (qa8 x) W (rootY_lt x) hW)
 rw [root_first] at M1;rw [powF_two] at S3 S4;have D1:=hid (lim_same (mulF (qa7 x) (qa7 x)) x (qaM _ _) hx);have D2:=hid (lim_same (mulF (qa8 x) (qa8 x)) x (qaM _ _) hx);have V1:=hid (rootF_same x);have V2:=hid (rootF_other x);have V3:=hid (rootF_yes x);have V4:=hid (rootF_no x);have I1:=hid (qak x);have IX:=hid (qak (qa7 x));have ZX:=hid (qaq (qa7 x));have OX:=hid (qar (limN 4 (qa7 x)));have IY:=hid (qak (qa8 x));have OY:=hid (qar (limN 4 (qa8 x)))
 have ZY:Hid ((uc (limN 4 (qa7 x))).size=(uc (limN 4 (qa8 x))).size):=hid (by rw [qaY,qaY,qad,qad])
 have I0:=hid (qak 0);have O0:=hid (qar (limN 4 0));have Z0:=hid (qaq 0);have IEX:=hid (qak (qcP (qa7 x)));have ZEX:=hid (qaq (qcP (qa7 x)));have OEX:=hid (qar (limN 4 (qcP (qa7 x))));have IEY:=hid (qak (qcP (qa8 x)));have ZEY:=hid (qaq (qcP (qa8 x)));have OEY:=hid (qar (limN 4 (qcP (qa8 x))));have LS1:=hid (qad 4 (mulF (qa7 x) (qa7 x)));have LS2:=hid (qad 4 (mulF (qa8 x) (qa8 x)));have Lx:=hid (qad 4 x);clear hi hx hT
 go_enter Tryz.func185,Tryz.ntmps185
 go_upto_region 1 with fail
 generalize ((w.alloc _).alloc _)=W0 at *;generalize hBB:w.heap.size=B at *;have HBB:=hid hBB;clear hBB;generalize hX:qa7 x=X at *;generalize hY:qa8 x=Y at *;generalize powF (qao x 250) (2^2)=q1 at *;generalize powF x (2^1)=q2 at *;generalize qao x 250=u250 at *;generalize powF 2 ((pF-1) / 4)=rm at *;generalize mulF X X=XX at *;generalize mulF Y Y=YY at *;generalize qcP X=EX at *;generalize qcP Y=EY at *;clear hX hY
 refine qam 7 25 [.val (.agg (uc (limN 4 x))) [(1,.pointer (some ⟨B,0,none⟩))],.val (.agg (uc (limN 4 u250))) [(5,.agg (uc (limN 4 x)))],.val (.agg (uc (limN 4 q1))) [(6,.agg (uc (limN 4 u250)))],.val (.agg (uc (limN 4 x))) [(1,.pointer (some ⟨B,0,none⟩))],.val (.agg (uc (limN 4 q2))) [(8,.agg (uc (limN 4 x)))],.val (.agg (uc (limN 4 X))) [(7,.agg (uc (limN 4 q1))),(9,.agg (uc (limN 4 q2)))],.fresh (.cells zeros4 61)] (by kernel_rfl) (by kernel_rfl) rfl ?_ ?_ ?_
 ·simp only [take_succ_cons,List.take_zero,qaL,qaK,HeadSpec.val,HeadSpec.fresh,and_true]
  refine ⟨?_,?_,?_,?_,?_,?_,?_⟩
  ·intro a w hb h
   have e0:=h (1,.pointer (some ⟨B,0,none⟩)) (by simp)
   exact qae 61 (.tmp 1) rfl B e0 61 _ (0,0) _ (qaa hb (qab H1.out) H1.out) Tryz.underlying61 rfl I1.out
  ·intro a w hb h
   have e0:=h (5,.agg (uc (limN 4 x))) (by simp)
   simp only [getD_eq_getD_getElem?] at e0
   simp [go_sem,e0,qac]
   exact C.out w
  ·intro a w hb h
   have e0:=h (6,.agg (uc (limN 4 u250))) (by simp)
   simp only [getD_eq_getD_getElem?] at e0
   simp [go_sem,e0,qac]
   exact S1.out w
  ·intro a w hb h
   have e0:=h (1,.pointer (some ⟨B,0,none⟩)) (by simp)
   exact qae 61 (.tmp 1) rfl B e0 61 _ (0,0) _ (qaa hb (qab H1.out) H1.out) Tryz.underlying61 rfl I1.out
  ·intro a w hb h
   have e0:=h (8,.agg (uc (limN 4 x))) (by simp)
   simp only [getD_eq_getD_getElem?] at e0
   simp [go_sem,e0,qac]
   exact S2.out w
  ·intro a w hb h
   have e0:=h (7,.agg (uc (limN 4 q1))) (by simp)
   have e1:=h (9,.agg (uc (limN 4 q2))) (by simp)
   simp only [getD_eq_getD_getElem?] at e0 e1
   simp [go_sem,e0,e1,qac]
   exact M1.out w
  ·intro a w hb
   simp [go_sem,hz]
 ·simp [qau,qav,qaJ,HeadSpec.val,HeadSpec.fresh,Act.put]
 ·simp only [take_succ_cons,List.take_zero,drop_succ_cons,List.drop_zero,qaH,HeadSpec.val,HeadSpec.fresh,Act.put,setIfInBounds_toArray,set_cons_succ,set_cons_zero]
  intro g4 hgg4 _ v1 hv1 hgs
  have HN:=hid (show v1.heap[g4]?=some (.cells zeros4 61) from hgs (g4,.cells zeros4 61) (by simp))
  have hb1:Below B w v1:=hb.trans (hv1.mono (by have:=qab H1.out;omega))
  have HNN:=hid (setRow_heap v1 (g4) _ (uc (limN 4 X)) _ _ HN.out)
  have kH1:Hid ((v1.setRow (g4) (uc (limN 4 X))).heap[B]?=some (.cells (uc (limN 4 x)) 61)):=hid (by rw [setRow_other _ _ _ _ (by have:=qab H1.out;omega)];exact qaa hv1 (qab H1.out) H1.out)
  have kH2:Hid ((v1.setRow (g4) (uc (limN 4 X))).heap[B+1]?=some (.cells zeros4 61)):=hid (by rw [setRow_other _ _ _ _ (by have:=qab H2.out;omega)];exact qaa hv1 (qab H2.out) H2.out)
  have hb2:Below B w (v1.setRow (g4) (uc (limN 4 X))):=below_setRow hb1 (by have:=qab H1.out;omega) _
  have hg4:B+1<g4:=by have:=qab H2.out;omega
  clear H1 H2 hb1 hv1 hgs hb
  go_wp2_with (with_reducible refine wpList_store_row rfl 61 _ _ rfl (g4) (uc (limN 4 X)) rfl rfl 61 _ HN.out IX.out ZX.out OX.out ?_)
  generalize World.setRow _ _ _=W1 at *;have H1:=kH1;have H2:=kH2;have H4:=HNN;have hb:=hb2;clear kH1 kH2 HNN HN hb2 S1 M1 S2 C
  try simp only [Act.put]
  by_cases hc:XX=x
  ·have hcc:=hc
   have hsz:=qab H4.out
   refine qaE (by kernel_rfl) (by kernel_rfl) ?_
   refine qbx rfl 61 _ rfl ⟨g4,0,none⟩ rfl _ (qbp 61 g4 61 _ (0,0) _ H4.out Tryz.underlying61 rfl IX.out) ?_
   simp only [Act.put,setIfInBounds_toArray,set_cons_succ,set_cons_zero]
   first | go_big_quiet_step (exact Calls.regrown_of (S3.out _)) | quiet_step (exact Calls.regrown_of (S3.out _))
   refine qbx rfl 61 _ rfl ⟨B,0,none⟩ rfl _ (qbp 61 B 61 _ (0,0) _ H1.out Tryz.underlying61 rfl I1.out) ?_
   simp only [Act.put,setIfInBounds_toArray,set_cons_succ,set_cons_zero]
   refine qeH rfl _ _ rfl (limN 4 XX) (limN 4 x) false LS1.out Lx.out rfl rfl (by rw [D1.out];simp [hc]) ?_
   simp only [Act.put,setIfInBounds_toArray,set_cons_succ,set_cons_zero]
   refine wpQuiet_nil ?_
   intro V hv;have H1:=hid (qaa hv (qab H1.out) H1.out);have H2:=hid (qaa hv (qab H2.out) H2.out);have H4:=hid (qaa hv (qab H4.out) H4.out)
   have hb:Below B w V:=hb.trans (hv.mono (by omega))
   go_wp2_with fail
   have hsz:=qab H4.out
   refine qaE (by kernel_rfl) (by kernel_rfl) ?_
   refine qbx rfl 61 _ rfl ⟨g4,0,none⟩ rfl _ (qbp 61 g4 61 _ (0,0) _ H4.out Tryz.underlying61 rfl IX.out) ?_
   simp only [Act.put,setIfInBounds_toArray,set_cons_succ,set_cons_zero]
   first | go_big_quiet_step (exact Calls.regrown_of (S3.out _)) | quiet_step (exact Calls.regrown_of (S3.out _))
   refine qbx rfl 61 _ rfl ⟨B,0,none⟩ rfl _ (qbp 61 B 61 _ (0,0) _ H1.out Tryz.underlying61 rfl I1.out) ?_
   simp only [Act.put,setIfInBounds_toArray,set_cons_succ,set_cons_zero]
   refine qeH rfl _ _ rfl (limN 4 XX) (limN 4 x) false LS1.out Lx.out rfl rfl (by rw [D1.out];simp [hc]) ?_
   simp only [Act.put,setIfInBounds_toArray,set_cons_succ,set_cons_zero]
   refine wpQuiet_nil ?_
   intro V hv;have H1:=hid (qaa hv (qab H1.out) H1.out);have H2:=hid (qaa hv (qab H2.out) H2.out);have H4:=hid (qaa hv (qab H4.out) H4.out)
   have hb:Below B w V:=hb.trans (hv.mono (by omega))
   go_wp2_with (with_reducible refine wpList_load_row rfl 61 _ rfl g4 rfl 61 _ (0,0) _ H4.out Tryz.underlying61 rfl IX.out ?_)
   have HPv:=HP.out.below hb HPl.out
   refine (E1.out _ HPv).mono ?_
   rintro e V2 ⟨rfl,hv2⟩;have hsz2:=qab H4.out;have H2:=hid (qaa hv2 (qab H2.out) H2.out)
   have hb:Below B w V2:=hb.trans (hv2.mono (by omega))
   go_wp2_with (with_reducible refine wpList_store_row rfl 61 _ _ rfl (B+1) (uc (limN 4 EX)) rfl rfl 61 _ H2.out IEX.out ZEX.out OEX.out ?_)
   exact bodyPost_ret (qax (by rfl) _ _ (B+1) 61 _ (0,0) _ rfl (setRow_heap _ _ _ _ _ _ H2.out) Tryz.underlying61 rfl IEX.out) rfl ⟨by rw [V1.out hc];rfl,by rw [HBB.out];exact below_setRow hb (by omega) _⟩
  ·have HM:=hid (V2.out hc)
   rw [HM.out] at M2;have hsz:=qab H4.out
   refine qaE (by kernel_rfl) (by kernel_rfl) ?_
   refine qbx rfl 61 _ rfl ⟨g4,0,none⟩ rfl _ (qbp 61 g4 61 _ (0,0) _ H4.out Tryz.underlying61 rfl IX.out) ?_
   simp only [Act.put,setIfInBounds_toArray,set_cons_succ,set_cons_zero]
   first | go_big_quiet_step (exact Calls.regrown_of (S3.out _)) | quiet_step (exact Calls.regrown_of (S3.out _))
   refine qbx rfl 61 _ rfl ⟨B,0,none⟩ rfl _ (qbp 61 B 61 _ (0,0) _ H1.out Tryz.underlying61 rfl I1.out) ?_
   simp only [Act.put,setIfInBounds_toArray,set_cons_succ,set_cons_zero]
   refine qeH rfl _ _ rfl (limN 4 XX) (limN 4 x) true LS1.out Lx.out rfl rfl (by rw [D1.out];simp [hc]) ?_
   simp only [Act.put,setIfInBounds_toArray,set_cons_succ,set_cons_zero]
   refine wpQuiet_nil ?_
   intro V hv;have H1:=hid (qaa hv (qab H1.out) H1.out);have H2:=hid (qaa hv (qab H2.out) H2.out);have H4:=hid (qaa hv (qab H4.out) H4.out)
   have hb:Below B w V:=hb.trans (hv.mono (by omega))
   go_wp2_with fail
   refine qam 3 25 [.val (.agg (uc (limN 4 X))) [(4,.pointer (some ⟨g4,0,none⟩))],.val (.agg (uc (limN 4 rm))) [],.val (.agg (uc (limN 4 Y))) [(15,.agg (uc (limN 4 X))),(16,.agg (uc (limN 4 rm)))]] (by kernel_rfl) (by kernel_rfl) rfl ?_ ?_ ?_
   ·simp only [take_succ_cons,List.take_zero,qaL,qaK,HeadSpec.val,HeadSpec.fresh,and_true]
    refine ⟨?_,?_,?_⟩
    ·intro a w hb h
     have e0:=h (4,.pointer (some ⟨g4,0,none⟩)) (by simp)
     exact qae 61 (.tmp 4) rfl g4 e0 61 _ (0,0) _ (qaa hb (qab H4.out) H4.out) Tryz.underlying61 rfl IX.out
    ·intro a w hb h
     simp [go_sem,qac]
     exact R.out w
    ·intro a w hb h
     have e0:=h (15,.agg (uc (limN 4 X))) (by simp)
     have e1:=h (16,.agg (uc (limN 4 rm))) (by simp)
     simp only [getD_eq_getD_getElem?] at e0 e1
     simp [go_sem,e0,e1,qac]
     exact M2.out w
   ·simp [qau,qav,qaJ,HeadSpec.val,HeadSpec.fresh,Act.put]
   ·simp only [take_succ_cons,List.take_zero,drop_succ_cons,List.drop_zero,qaH,HeadSpec.val,HeadSpec.fresh,Act.put,setIfInBounds_toArray,set_cons_succ,set_cons_zero]
    intro v1 hv1 hgs;have HN:=hid (qaa hv1 (qab H4.out) H4.out)
    have hb1:Below B w v1:=hb.trans (hv1.mono (by have:=qab H1.out;omega))
    have HNN:=hid (setRow_heap v1 (g4) _ (uc (limN 4 Y)) _ _ HN.out)
    have kH1:Hid ((v1.setRow (g4) (uc (limN 4 Y))).heap[B]?=some (.cells (uc (limN 4 x)) 61)):=hid (by rw [setRow_other _ _ _ _ (by have:=qab H1.out;omega)];exact qaa hv1 (qab H1.out) H1.out)
    have kH2:Hid ((v1.setRow (g4) (uc (limN 4 Y))).heap[B+1]?=some (.cells zeros4 61)):=hid (by rw [setRow_other _ _ _ _ (by have:=qab H2.out;omega)];exact qaa hv1 (qab H2.out) H2.out)
    have hb2:Below B w (v1.setRow (g4) (uc (limN 4 Y))):=below_setRow hb1 (by omega) _
    clear H1 H2 hb1 hv1 hgs hb H4
    go_wp2_with (with_reducible refine wpList_store_row rfl 61 _ _ rfl (g4) (uc (limN 4 Y)) rfl rfl 61 _ HN.out IY.out ZY.out OY.out ?_)
    have H1:=kH1;have H2:=kH2;have H4:=HNN;have hb:=hb2;clear kH1 kH2 HNN HN hb2 HM hc
    go_wp2_with fail
    generalize World.setRow _ _ _=W2 at *
    by_cases hc:YY=x
    ·have hcc:=hc
     have hsz:=qab H4.out
     refine qaE (by kernel_rfl) (by kernel_rfl) ?_
     refine qbx rfl 61 _ rfl ⟨g4,0,none⟩ rfl _ (qbp 61 g4 61 _ (0,0) _ H4.out Tryz.underlying61 rfl IY.out) ?_
     simp only [Act.put,setIfInBounds_toArray,set_cons_succ,set_cons_zero]
     first | go_big_quiet_step (exact Calls.regrown_of (S4.out _)) | quiet_step (exact Calls.regrown_of (S4.out _))
     refine qbx rfl 61 _ rfl ⟨B,0,none⟩ rfl _ (qbp 61 B 61 _ (0,0) _ H1.out Tryz.underlying61 rfl I1.out) ?_
     simp only [Act.put,setIfInBounds_toArray,set_cons_succ,set_cons_zero]
     refine qeH rfl _ _ rfl (limN 4 YY) (limN 4 x) false LS2.out Lx.out rfl rfl (by rw [D2.out];simp [hc]) ?_
     simp only [Act.put,setIfInBounds_toArray,set_cons_succ,set_cons_zero]
     refine wpQuiet_nil ?_
     intro V hv;have H1:=hid (qaa hv (qab H1.out) H1.out);have H2:=hid (qaa hv (qab H2.out) H2.out);have H4:=hid (qaa hv (qab H4.out) H4.out)
     have hb:Below B w V:=hb.trans (hv.mono (by omega))
     go_wp2_with (with_reducible refine wpList_load_row rfl 61 _ rfl g4 rfl 61 _ (0,0) _ H4.out Tryz.underlying61 rfl IY.out ?_)
     have HPv:=HP.out.below hb HPl.out
     refine (E2.out _ HPv).mono ?_
     rintro e V2 ⟨rfl,hv2⟩;have hsz2:=qab H4.out;have H2:=hid (qaa hv2 (qab H2.out) H2.out)
     have hb:Below B w V2:=hb.trans (hv2.mono (by omega))
     go_wp2_with (with_reducible refine wpList_store_row rfl 61 _ _ rfl (B+1) (uc (limN 4 EY)) rfl rfl 61 _ H2.out IEY.out ZEY.out OEY.out ?_)
     exact bodyPost_ret (qax (by rfl) _ _ (B+1) 61 _ (0,0) _ rfl (setRow_heap _ _ _ _ _ _ H2.out) Tryz.underlying61 rfl IEY.out) rfl ⟨by rw [V3.out hc];rfl,by rw [HBB.out];exact below_setRow hb (by omega) _⟩
    ·have hcc:=hc
     have hsz:=qab H4.out
     refine qaE (by kernel_rfl) (by kernel_rfl) ?_
     refine qbx rfl 61 _ rfl ⟨g4,0,none⟩ rfl _ (qbp 61 g4 61 _ (0,0) _ H4.out Tryz.underlying61 rfl IY.out) ?_
     simp only [Act.put,setIfInBounds_toArray,set_cons_succ,set_cons_zero]
     first | go_big_quiet_step (exact Calls.regrown_of (S4.out _)) | quiet_step (exact Calls.regrown_of (S4.out _))
     refine qbx rfl 61 _ rfl ⟨B,0,none⟩ rfl _ (qbp 61 B 61 _ (0,0) _ H1.out Tryz.underlying61 rfl I1.out) ?_
     simp only [Act.put,setIfInBounds_toArray,set_cons_succ,set_cons_zero]
     refine qeH rfl _ _ rfl (limN 4 YY) (limN 4 x) true LS2.out Lx.out rfl rfl (by rw [D2.out];simp [hc]) ?_
     simp only [Act.put,setIfInBounds_toArray,set_cons_succ,set_cons_zero]
     refine wpQuiet_nil ?_
     intro V hv;have H1:=hid (qaa hv (qab H1.out) H1.out);have H2:=hid (qaa hv (qab H2.out) H2.out);have H4:=hid (qaa hv (qab H4.out) H4.out)
     have hb:Below B w V:=hb.trans (hv.mono (by omega))
     go_wp2_with (first
      | (with_reducible refine qeG rfl rfl ?_)
      | (with_reducible refine wpList_store_row rfl 61 _ _ rfl (B+1) (uc (limN 4 0)) rfl rfl 61 _ H2.out I0.out Z0.out O0.out ?_))
     exact bodyPost_ret (qax (by rfl) _ _ (B+1) 61 _ (0,0) _ rfl (setRow_heap _ _ _ _ _ _ H2.out) Tryz.underlying61 rfl I0.out) rfl ⟨by rw [V4.out hc];rfl,by rw [HBB.out];exact below_setRow hb (by omega) _⟩
end
section
open Go.RowKit Go.Sort
theorem bw_256 (i:Nat):bw i=256^(8*i):=by rw [bw,Nat.pow_mul]
theorem limb_byte (x k:Nat):dg x (k / 8) / 2^(k%8*8)%256=x / 256^k%256:=by
 obtain ⟨i,r,hr,rfl⟩:∃ i r,r<8∧k=8*i+r:=⟨k / 8,k%8,by omega,by omega⟩
 have h1:(8*i+r) / 8=i:=by omega
 have h2:(8*i+r)%8=r:=by omega
 have h3:2^(r*8)=256^r:=by rw [Nat.mul_comm,Nat.pow_mul]
 obtain ⟨d,hd⟩:∃ d,8-r=d+1:=⟨7-r,by omega⟩
 have h4:18446744073709551616=256^r*256^(d+1):=by rw [← Nat.pow_add,← hd,show r+(8-r)=8 by omega]
 rw [h1,h2,h3,dg,h4,Nat.mod_mul_right_div_self,bw_256,Nat.div_div_eq_div_mul,← Nat.pow_add,Nat.pow_succ,Nat.mul_comm (256^d)];exact Nat.mod_mod_of_dvd _ ⟨256^d,rfl⟩
def outF (x k:Nat):List UInt8:=leF x k++List.replicate (32-k) 0
theorem outF_length (x k:Nat) (h:k≤32):(outF x k).length=32:=by simp [outF,qa2];omega
theorem leF_succ (x k:Nat):leF x (k+1)=leF x k++[UInt8.ofNat (x / 256^k)]:=by rw [leF,List.range_succ,List.map_append];rfl
theorem outF_set (x k:Nat) (h:k<32):(outF x k).set k (UInt8.ofNat (x / 256^k))=outF x (k+1):=by
 have e:List.replicate (32-k) (0:UInt8)=0 :: List.replicate (32-(k+1)) 0:=by rw [show 32-k=(32-(k+1))+1 by omega,List.replicate_succ]
 rw [outF,e,List.set_append,if_neg (by rw [qa2];omega),qa2,Nat.sub_self,set_cons_zero,outF,leF_succ]
 simp
theorem outF_full (x:Nat):outF x 32=leF x 32:=by simp [outF]
def qdL:Array Value:=qaZ (List.replicate 32 0)
theorem infoB32:(Tryz.prog.info? 153).map (fun i=>(i.zero,i.size))=some (some (.agg qdL),32):=by kernel_rfl
set_option maxHeartbeats 1000000 in
theorem qeR (x:Nat) (w:World) :
  Calls Tryz.prog 99 #[.agg (uc (limN 4 x))] w fun e w'=>e=.returned (.string ⟨(leF x 32).toArray⟩)∧Below w.heap.size w w':=by
 obtain ⟨hz,hi⟩:=zero_of_info infoB32;have HG0:=hid (qaj (o:=.cells qdL 153) (qag w (.cells (uc (limN 4 x)) 61)));have HO0:=hid (qaw w (.cells (uc (limN 4 x)) 61) (.cells qdL 153));have hb0:=qaP w (.cells (uc (limN 4 x)) 61) (.cells qdL 153);clear hi
 go_enter Tryz.func99,Tryz.ntmps99
 go_wp2_with fail
 clear hz;generalize ((w.alloc _).alloc _)=W0 at *;generalize hBB:w.heap.size=B at *;have HBB:=hid hBB;clear hBB
 go_loopw [5] (fun iv wr=>∃ k:Nat,k≤32∧iv=.int .i64 (k:Int)∧wr.heap[B]?=some (.cells (uc (limN 4 x)) 61)∧wr.heap[B+1]?=some (.cells (qaZ (outF x k)) 153)∧Below B w wr) (fun iv _=>32-(intOf iv).toNat)
 case atStart=>exact ⟨0,by omega,rfl,HG0.out,HO0.out,hb0⟩
 case round=>
  clear HG0 HO0 hb0;obtain ⟨k,hk,rfl,hg,ho,hb⟩:=hrel;have HG:=hid hg;have HO:=hid ho;clear hg ho
  by_cases hlt:k<32
  ·have hd:decide ((k:Int)<32)=true:=by simp;omega
   have cx:=qbI HG.out (k / 8) (by rw [qad];omega)
   rw [qbc _ _ _ (by omega)] at cx
   have hby:=limb_byte x k;have hs:=outF_set x k hlt
   have hb8:(UInt8.ofNat (x / 256^k)).toNat=x / 256^k%256:=by rw [UInt8.toNat_ofNat']
   rw [← hb8] at hby;generalize UInt8.ofNat (x / 256^k)=b8 at *;have r1:=bheap_set HO.out k b8;rw [hs] at r1
   have co:=bcell_at HO.out k (by rw [outF_length _ _ (by omega)];exact hlt)
   have fo:=frozen_of_row wr (B+1) k _ _ HO.out;generalize dg x (k / 8)=d at *
   have hv:(d:Int) / 2^(k%8*8)%256=(b8.toNat:Int):=by rw [← hby];simp
   have HO2:=hid r1
   have HG2:=hid (show (wr.setCell ⟨B+1,k,none⟩ (.int .u8 (b8.toNat:Int))).heap[B]?=some (.cells (uc (limN 4 x)) 61) from by rw [heap_setCell_other _ _ _ _ (by simp)];exact HG.out)
   have hb2:Below B w (wr.setCell ⟨B+1,k,none⟩ (.int .u8 (b8.toNat:Int))):=hb.setCell (by simp) _
   clear r1 hb HG hs hb8 hby
   go_wp2_with fail
   go_roundw
   case rel=>exact ⟨k+1,by omega,by go_num,HG2.out,HO2.out,hb2⟩
   case measure=>simp [intOf];omega
  ·have hd:decide ((k:Int)<32)=false:=by simp;omega
   obtain rfl:k=32:=by omega
   rw [outF_full] at HO;have hl:=qa2 x 32;have hc:=qbl wr (B+1) 32 (leF x 32) (qch HO.out)
   have sl:=qcQ 153 32 (B+1) (by kernel_rfl) (by kernel_rfl) (by kernel_rfl) (by omega)
   rw [hl] at hc;generalize hrow:leF x 32=row at *;have HROW:=hid hrow;clear hrow
   go_wp2_with fail
   go_ret
   exact ⟨by rw [HROW.out];rfl,by rw [HBB.out];exact hb⟩
end
section
open Go.RowKit Go.Sort
theorem lim_put (V b k:Nat) (hV:V<256^k) (hb:b<256) (hk:k<32) :
  (limN 4 V).set (k / 8) (dg V (k / 8)+b*2^(k%8*8))=limN 4 (V+b*256^k)∧dg V (k / 8)<2^(k%8*8)∧dg V (k / 8)+b*2^(k%8*8)<18446744073709551616:=by
 obtain ⟨i,r,hr,rfl⟩:∃ i r,r<8∧k=8*i+r:=⟨k / 8,k%8,by omega,by omega⟩
 have h1:(8*i+r) / 8=i:=by omega
 have h2:(8*i+r)%8=r:=by omega
 have h3:2^(r*8)=256^r:=by rw [Nat.mul_comm,Nat.pow_mul]
 rw [h1,h2,h3]
 have hp:256^(8*i+r)=bw i*256^r:=by rw [Nat.pow_add,bw_256]
 have hd:V / bw i<256^r:=Nat.div_lt_of_lt_mul (by rw [← hp];exact hV)
 have hr7:256^r*256≤18446744073709551616:=by
  rw [← Nat.pow_succ,show 18446744073709551616=256^8 by decide]
  exact Nat.pow_le_pow_right (by decide) hr
 have hbr:b*256^r≤255*256^r:=Nat.mul_le_mul_right _ (by omega)
 have hdg:dg V i=V / bw i:=Nat.mod_eq_of_lt (by omega)
 have hlt:V / bw i+b*256^r<18446744073709551616:=by omega
 refine ⟨?_,by rw [hdg];exact hd,by rw [hdg];exact hlt⟩
 refine qbG (by rw [List.length_set,qad]) (qad ..) fun j hj=>?_
 rw [qbz _ _ _ _ (by rw [qad];omega),qbc _ _ _ hj,qbc _ _ _ hj]
 rw [hp,Nat.mul_left_comm]
 by_cases e:j=i
 ·subst e
  rw [if_pos rfl,hdg,dg,Nat.add_mul_div_left _ _ (qdp j),Nat.mod_eq_of_lt hlt]
 ·rw [if_neg e]
  by_cases hji:j<i
  ·rw [dg_low_same _ _ _ _ hji]
  ·have hbig:V+bw i*(b*256^r)<bw (i+1):=by
    have hm:=Nat.mod_lt V (qdp i);have hdm:=Nat.div_add_mod V (bw i);rw [bw_succ]
    have h5:bw i*(V / bw i+b*256^r+1)≤bw i*18446744073709551616:=Nat.mul_le_mul_left _ (by omega)
    rw [Nat.mul_add,Nat.mul_add,Nat.mul_one] at h5
    omega
   rw [qdq _ (i+1) _ hbig (by omega),qdq V (i+1) _ (Nat.lt_of_le_of_lt (Nat.le_add_right _ _) hbig) (by omega)]
theorem or_put (d b s:Nat) (hd:d<2^s) (h:d+b*2^s<18446744073709551616):bits .or .u64 (d:Int) ((b:Int)*2^s)=((d+b*2^s:Nat):Int):=by
 have e0:((b:Int)*2^s)=((2^s*b:Nat):Int):=by rw [Int.mul_comm];simp
 have hm:b*2^s=2^s*b:=Nat.mul_comm _ _
 have e1:(BitVec.ofInt 64 (d:Int)).toNat=d:=by rw [BitVec.toNat_ofInt];omega
 have e2:(BitVec.ofInt 64 ((2^s*b:Nat):Int)).toNat=2^s*b:=by rw [BitVec.toNat_ofInt];omega
 rw [e0]
 show IntKind.u64.wrap (((BitVec.ofInt 64 (d:Int) ||| BitVec.ofInt 64 ((2^s*b:Nat):Int)).toNat:Nat):Int)=_
 rw [BitVec.toNat_or,e1,e2,Nat.or_comm,← Nat.two_pow_add_eq_or_of_lt hd,IntKind.wrap_u64]
 omega
set_option maxHeartbeats 1000000 in
theorem of_any (s:ByteArray) (w:World) (h:s.size=32) :
  Calls Tryz.prog 183 #[.string s] w fun e w'=>e=.returned (.tuple #[.agg (uc (limN 4 (leV s.data.toList 32%pF))),.int .i64 0])∧Below w.heap.size w w':=by
 obtain ⟨hz,hi⟩:=zero_of_info qbO;obtain ⟨hzl,hil⟩:=zero_of_info infoL
 have hd:((s.size:Int) != 32)=false:=by simp [h]
 have HR0:=hid (qaj (o:=.cells zeros4 59) (qag w (.cells zeros4 61)));have HG0:=hid (qaw w (.cells zeros4 61) (.cells zeros4 59));have hb0:=qaP w (.cells zeros4 61) (.cells zeros4 59);have HH:=hid h;clear hi hil
 go_enter Tryz.func183,Tryz.ntmps183
 go_wp2_with fail
 clear hz hzl h hd;generalize ((w.alloc _).alloc _)=W0 at *;generalize hBB:w.heap.size=B at *;have HBB:=hid hBB;clear hBB
 go_loopw [10] (fun iv wr=>∃ k:Nat,k≤32∧iv=.int .i64 (k:Int)∧wr.heap[B]?=some (.cells zeros4 61)∧wr.heap[B+1]?=some (.cells (uc (limN 4 (leV s.data.toList k))) 59)∧Below B w wr) (fun iv _=>32-(intOf iv).toNat)
 case atStart=>exact ⟨0,by omega,rfl,HR0.out,by rw [show leV s.data.toList 0=0 from rfl,← qeQ];exact HG0.out,hb0⟩
 case round=>
  clear HG0 HR0 hb0;obtain ⟨k,hk,rfl,hr,hg,hb⟩:=hrel;have HG:=hid hg;have HR:=hid hr;clear hg hr
  by_cases hlt:k<32
  ·have hd:decide ((k:Int)<32)=true:=by simp;omega
   have cx:=qbI HG.out (k / 8) (by rw [qad];omega)
   rw [qbc _ _ _ (by omega)] at cx
   obtain ⟨p1,p2,p3⟩:=lim_put (leV s.data.toList k) (s.data.toList.getD k 0).toNat k (leV_lt _ k) (UInt8.toNat_lt _) hlt
   have HS:=hid (show (limN 4 (leV s.data.toList k)).set (k / 8) (dg (leV s.data.toList k) (k / 8)+(s.data.toList.getD k 0).toNat*2^(k%8*8))=limN 4 (leV s.data.toList (k+1)) from p1)
   have hor:=or_put _ _ _ p2 p3
   have hin:k<s.size:=by rw [HH.out];exact hlt
   have hgb:s.data.toList.getD k 0=s[k]:=by rw [List.getD_eq_getElem?_getD,Array.getElem?_toList];simp [hin];rfl
   obtain ⟨v,hv⟩:∃ v,v=dg (leV s.data.toList k) (k / 8)+(s.data.toList.getD k 0).toNat*2^(k%8*8):=⟨_,rfl⟩
   have hw:bits .or .u64 ((dg (leV s.data.toList k) (k / 8):Nat):Int) (IntKind.u64.wrap (IntKind.u64.wrap (s[k].toNat:Int)*2^(k%8*8)))=(v:Int):=by
    have hb8:=UInt8.toNat_lt s[k]
    have e1:IntKind.u64.wrap (s[k].toNat:Int)=(s[k].toNat:Int):=by rw [IntKind.wrap_u64];omega
    have e2:((s[k].toNat:Int)*2^(k%8*8))=((s[k].toNat*2^(k%8*8):Nat):Int):=by simp
    rw [hgb] at hor p3 hv;rw [e1,hv,← hor,IntKind.wrap_u64,e2]
    congr 1
    omega
   rw [← hv] at HS;have r1:=qbP HG.out (k / 8) v;rw [HS.out] at r1;clear p1 p2 p3 hor hgb HS hv;have hll:=qad 4 (leV s.data.toList k);generalize hnx:leV s.data.toList (k+1)=nx at *;have HNX:=hid hnx;clear hnx;generalize dg (leV s.data.toList k) (k / 8)=p at *;generalize limN 4 (leV s.data.toList k)=u at *
   go_wp2_with fail
   have ka:=cell_regrown cx
   refine qap 14 (by kernel_rfl) (by kernel_rfl) ?_
   simp only [take_succ_cons,List.take_zero,drop_succ_cons,List.drop_zero]
   repeat (first | go_big_quiet_step (fail) | quiet_step (fail))
   refine wpQuiet_nil ?_
   intro W1 hb1;have hlw:=qab HG.out
   have hR1:=qaa hb1 (by omega) HR.out
   have hG1:=qaa hb1 hlw HG.out;have fx:=frozen_of_row W1 (B+1) (k / 8) _ _ hG1
   have cu:=qbI hG1 (k / 8) (by omega)
   have r2:=qbP hG1 (k / 8) v
   have HG2:=hid (show (W1.setCell ⟨B+1,k / 8,none⟩ (.int .u64 (v:Int))).heap[B+1]?=some (.cells (uc (limN 4 nx)) 59) from by
    have e:=(qbP HG.out (k / 8) v).symm.trans r1
    simp only [Option.some.injEq,Obj.cells.injEq,and_true] at e
    rw [← e];exact r2)
   have HR2:=hid (show (W1.setCell ⟨B+1,k / 8,none⟩ (.int .u64 (v:Int))).heap[B]?=some (.cells zeros4 61) from by rw [heap_setCell_other _ _ _ _ (by simp)];exact hR1)
   have hb2:Below B w (W1.setCell ⟨B+1,k / 8,none⟩ (.int .u64 (v:Int))):=(hb.trans (hb1.mono (by omega))).setCell (by simp) _
   clear r1 r2 hb HR HG ka cx hG1 hR1 hlw hb1 hw
   go_wp2_with fail
   go_roundw
   case rel=>exact ⟨k+1,by omega,by go_num,HR2.out,by rw [HNX.out];exact HG2.out,hb2⟩
   case measure=>simp [intOf];omega
  ·have hd:decide ((k:Int)<32)=false:=by simp;omega
   obtain rfl:k=32:=by omega
   have hx:=leV_lt s.data.toList 32
   rw [show 256^32=mF by decide] at hx
   have HC:=hid (fun W=>qd5 (leV s.data.toList 32) 0 W hx (by omega))
   rw [Nat.zero_mul,Nat.add_zero] at HC;generalize hr:leV s.data.toList 32%pF=r at *;have HRr:=hid hr;clear hr hx;generalize hx2:leV s.data.toList 32=x at *;have HX2:=hid hx2;clear hx2;have HI:=hid (qcd (limN 4 x) (qad _ _));have Ir:=hid (qak r);have Or:=hid (qar (limN 4 r));have Zr:=hid (qaq r)
   go_wp2_with (with_reducible refine wpList_load_row rfl 59 _ rfl (B+1) rfl 59 _ (0,0) _ HG.out Tryz.underlying59 rfl HI.out ?_)
   refine (HC.out wr).mono ?_
   rintro e W1 ⟨rfl,h1⟩;have HR1:=hid (qaa h1 (qab HR.out) HR.out)
   have hb1:Below B w W1:=hb.trans (h1.mono (by have:=qab HR.out;omega))
   clear HC h1 hb HG HR
   go_wp2_with (with_reducible refine wpList_store_row rfl 61 _ _ rfl B (uc (limN 4 r)) rfl rfl 61 _ HR1.out Ir.out Zr.out Or.out ?_)
   exact bodyPost_ret (qax (by rfl) _ _ B 61 _ (0,0) _ rfl (setRow_heap _ _ _ _ _ _ HR1.out) Tryz.underlying61 rfl Ir.out) rfl ⟨by rw [HX2.out,HRr.out];rfl,by rw [HBB.out];exact below_setRow hb1 (Nat.le_refl _) _⟩
end
end Go.Proofs.YteomfleofeeofaaGreatDoor
