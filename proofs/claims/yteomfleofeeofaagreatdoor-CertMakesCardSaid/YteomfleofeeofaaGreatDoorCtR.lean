/- Times: the reference's isTime, leap, month, digits, Time; Times: the reference's Time; Names, and which time a text says: the reference's isName, at; Parts of certificates: the reference's thing, algorithm, named, whole, in; The inner part of a certificate, and whether its fields are right: the reference's right, inner; What bytes say, as far as it can be told: the reference's parts; The reference's Make and Print, over whatever the reference's signatures and digests are; The reference's Read, over whatever the reference's signatures are; The reference's Allow, over whatever the reference's signatures and digests are. -/
import Derived.Test.YteomfleofeeofaaGreatDoorCtA
import Derived.Test.YteomfleofeeofaaGreatDoorDerS
namespace Go.Proofs.YteomfleofeeofaaGreatDoor
open Go.Lib (hid)
open _root_.Array (getD_eq_getD_getElem?)
set_option maxRecDepth 100000
set_option linter.unusedSimpArgs false
set_option linter.unusedVariables false
section
open Go.RowKit Go.Sort
theorem qfH (n:Int) (w:World):Calls Tryz.prog 25 #[.int .i64 n] w fun e w'=>e=.returned (.bool (isTm n))∧Below w.heap.size w w':=by
 have hb:=Below.refl w.heap.size w
 by_cases h0:0≤n
 ·have d0:decide (0≤n)=true:=decide_eq_true h0
  by_cases h1:n≤253402300799
  ·have d1:decide (n≤253402300799)=true:=decide_eq_true h1
   rw [isTm,d0,d1]
   go_enter Tryz.func25,Tryz.ntmps25
   go_wp2_with fail
   go_ret
   exact ⟨rfl,hb⟩
  ·have d1:decide (n≤253402300799)=false:=decide_eq_false h1
   rw [isTm,d0,d1]
   go_enter Tryz.func25,Tryz.ntmps25
   go_wp2_with fail
   go_ret
   exact ⟨rfl,hb⟩
 ·have d0:decide (0≤n)=false:=decide_eq_false h0
  rw [isTm,d0,Bool.false_and]
  go_enter Tryz.func25,Tryz.ntmps25
  go_wp2_with fail
  go_ret
  exact ⟨rfl,hb⟩
theorem rleap_any (y:Nat) (w:World) (hy:y≤100000):Calls Tryz.prog 26 #[.int .i64 (y:Int)] w fun e w'=>e=.returned (.bool (qat y))∧Below w.heap.size w w':=by
 have hb:=Below.refl w.heap.size w
 by_cases h4:y%4=0
 ·have d4:((y:Int)%4==0)=true:=by simp;omega
  by_cases h1:y%100=0
  ·have d1:((y:Int)%100 != 0)=false:=by simp;omega
   by_cases h2:y%400=0
   ·have d2:((y:Int)%400==0)=true:=by simp;omega
    have HL:Hid (qat y=true):=hid ((qcs y).2 (by omega))
    clear h4 h1 h2
    go_enter Tryz.func26,Tryz.ntmps26
    go_wp2_with fail
    go_ret
    exact ⟨by rw [HL.out];rfl,hb⟩
   ·have d2:((y:Int)%400==0)=false:=by simp;omega
    have HL:Hid (qat y=false):=hid (by rw [← Bool.not_eq_true,qcs];omega)
    clear h4 h1 h2
    go_enter Tryz.func26,Tryz.ntmps26
    go_wp2_with fail
    go_ret
    exact ⟨by rw [HL.out];rfl,hb⟩
  ·have d1:((y:Int)%100 != 0)=true:=by simp;omega
   have HL:Hid (qat y=true):=hid ((qcs y).2 (by omega))
   clear h4 h1
   go_enter Tryz.func26,Tryz.ntmps26
   go_wp2_with fail
   go_ret
   exact ⟨by rw [HL.out];rfl,hb⟩
 ·have d4:((y:Int)%4==0)=false:=by simp;omega
  by_cases h2:y%400=0
  ·exact absurd h2 (by omega)
  ·have d2:((y:Int)%400==0)=false:=by simp;omega
   have HL:Hid (qat y=false):=hid (by rw [← Bool.not_eq_true,qcs];omega)
   clear h4 h2
   go_enter Tryz.func26,Tryz.ntmps26
   go_wp2_with fail
   go_ret
   exact ⟨by rw [HL.out];rfl,hb⟩
theorem rmonth0_any (y:Nat) (w:World) (hy:y≤100000):Calls Tryz.prog 27 #[.int .i64 (y:Int),.int .i64 1] w fun e w'=>e=.returned (.int .i64 ((mlen (qat y) 0:Nat):Int))∧Below w.heap.size w w':=by
 have hb:=Below.refl w.heap.size w
 have c0:(w.alloc (.cells #[.int .i64 31,.int .i64 28,.int .i64 31,.int .i64 30,.int .i64 31,.int .i64 30,.int .i64 31,.int .i64 31,.int .i64 30,.int .i64 31,.int .i64 30,.int .i64 31] 3)).cell? ⟨w.heap.size,0,none⟩=some (.int .i64 31):=by rw [cell_of_row _ w.heap.size 0 _ 3 (0,0) (qag w _)];rfl
 replace hb:=hb.trans ((qah w (.cells #[.int .i64 31,.int .i64 28,.int .i64 31,.int .i64 30,.int .i64 31,.int .i64 30,.int .i64 31,.int .i64 31,.int .i64 30,.int .i64 31,.int .i64 30,.int .i64 31] 3)).mono hb.size)
 have HM:Hid (mlen (qat y) 0=31):=hid (by rw [mlen,if_neg (by omega)];rfl)
 go_enter Tryz.func27,Tryz.ntmps27
 go_wp2_with fail
 go_ret
 exact ⟨by rw [HM.out];rfl,hb⟩
theorem rmonth1_any (y:Nat) (w:World) (hy:y≤100000):Calls Tryz.prog 27 #[.int .i64 (y:Int),.int .i64 2] w fun e w'=>e=.returned (.int .i64 ((mlen (qat y) 1:Nat):Int))∧Below w.heap.size w w':=by
 have hb:=Below.refl w.heap.size w
 have CL:=hid (fun W=>rleap_any y W hy)
 cases hl:qat y with
 | true=>
  rw [hl] at CL;clear hl
  go_enter Tryz.func27,Tryz.ntmps27
  go_wp2_with fail
  refine (CL.out w).mono ?_
  rintro e W1 ⟨rfl,bk⟩;replace hb:=hb.trans (bk.mono hb.size);clear bk
  go_wp2_with fail
  go_ret
  exact ⟨rfl,hb⟩
 | false=>
  rw [hl] at CL;clear hl
  go_enter Tryz.func27,Tryz.ntmps27
  go_wp2_with fail
  refine (CL.out w).mono ?_
  rintro e W1 ⟨rfl,bk⟩;replace hb:=hb.trans (bk.mono hb.size);clear bk
  have c0:(W1.alloc (.cells #[.int .i64 31,.int .i64 28,.int .i64 31,.int .i64 30,.int .i64 31,.int .i64 30,.int .i64 31,.int .i64 31,.int .i64 30,.int .i64 31,.int .i64 30,.int .i64 31] 3)).cell? ⟨W1.heap.size,1,none⟩=some (.int .i64 28):=by rw [cell_of_row _ W1.heap.size 1 _ 3 (0,0) (qag W1 _)];rfl
  replace hb:=hb.trans ((qah W1 (.cells #[.int .i64 31,.int .i64 28,.int .i64 31,.int .i64 30,.int .i64 31,.int .i64 30,.int .i64 31,.int .i64 31,.int .i64 30,.int .i64 31,.int .i64 30,.int .i64 31] 3)).mono hb.size)
  go_wp2_with fail
  go_ret
  exact ⟨rfl,hb⟩
theorem rmonth2_any (y:Nat) (w:World) (hy:y≤100000):Calls Tryz.prog 27 #[.int .i64 (y:Int),.int .i64 3] w fun e w'=>e=.returned (.int .i64 ((mlen (qat y) 2:Nat):Int))∧Below w.heap.size w w':=by
 have hb:=Below.refl w.heap.size w
 have c0:(w.alloc (.cells #[.int .i64 31,.int .i64 28,.int .i64 31,.int .i64 30,.int .i64 31,.int .i64 30,.int .i64 31,.int .i64 31,.int .i64 30,.int .i64 31,.int .i64 30,.int .i64 31] 3)).cell? ⟨w.heap.size,2,none⟩=some (.int .i64 31):=by rw [cell_of_row _ w.heap.size 2 _ 3 (0,0) (qag w _)];rfl
 replace hb:=hb.trans ((qah w (.cells #[.int .i64 31,.int .i64 28,.int .i64 31,.int .i64 30,.int .i64 31,.int .i64 30,.int .i64 31,.int .i64 31,.int .i64 30,.int .i64 31,.int .i64 30,.int .i64 31] 3)).mono hb.size)
 have HM:Hid (mlen (qat y) 2=31):=hid (by rw [mlen,if_neg (by omega)];rfl)
 go_enter Tryz.func27,Tryz.ntmps27
 go_wp2_with fail
 go_ret
 exact ⟨by rw [HM.out];rfl,hb⟩
theorem rmonth3_any (y:Nat) (w:World) (hy:y≤100000):Calls Tryz.prog 27 #[.int .i64 (y:Int),.int .i64 4] w fun e w'=>e=.returned (.int .i64 ((mlen (qat y) 3:Nat):Int))∧Below w.heap.size w w':=by
 have hb:=Below.refl w.heap.size w
 have c0:(w.alloc (.cells #[.int .i64 31,.int .i64 28,.int .i64 31,.int .i64 30,.int .i64 31,.int .i64 30,.int .i64 31,.int .i64 31,.int .i64 30,.int .i64 31,.int .i64 30,.int .i64 31] 3)).cell? ⟨w.heap.size,3,none⟩=some (.int .i64 30):=by rw [cell_of_row _ w.heap.size 3 _ 3 (0,0) (qag w _)];rfl
 replace hb:=hb.trans ((qah w (.cells #[.int .i64 31,.int .i64 28,.int .i64 31,.int .i64 30,.int .i64 31,.int .i64 30,.int .i64 31,.int .i64 31,.int .i64 30,.int .i64 31,.int .i64 30,.int .i64 31] 3)).mono hb.size)
 have HM:Hid (mlen (qat y) 3=30):=hid (by rw [mlen,if_neg (by omega)];rfl)
 go_enter Tryz.func27,Tryz.ntmps27
 go_wp2_with fail
 go_ret
 exact ⟨by rw [HM.out];rfl,hb⟩
theorem rmonth4_any (y:Nat) (w:World) (hy:y≤100000):Calls Tryz.prog 27 #[.int .i64 (y:Int),.int .i64 5] w fun e w'=>e=.returned (.int .i64 ((mlen (qat y) 4:Nat):Int))∧Below w.heap.size w w':=by
 have hb:=Below.refl w.heap.size w
 have c0:(w.alloc (.cells #[.int .i64 31,.int .i64 28,.int .i64 31,.int .i64 30,.int .i64 31,.int .i64 30,.int .i64 31,.int .i64 31,.int .i64 30,.int .i64 31,.int .i64 30,.int .i64 31] 3)).cell? ⟨w.heap.size,4,none⟩=some (.int .i64 31):=by rw [cell_of_row _ w.heap.size 4 _ 3 (0,0) (qag w _)];rfl
 replace hb:=hb.trans ((qah w (.cells #[.int .i64 31,.int .i64 28,.int .i64 31,.int .i64 30,.int .i64 31,.int .i64 30,.int .i64 31,.int .i64 31,.int .i64 30,.int .i64 31,.int .i64 30,.int .i64 31] 3)).mono hb.size)
 have HM:Hid (mlen (qat y) 4=31):=hid (by rw [mlen,if_neg (by omega)];rfl)
 go_enter Tryz.func27,Tryz.ntmps27
 go_wp2_with fail
 go_ret
 exact ⟨by rw [HM.out];rfl,hb⟩
theorem rmonth5_any (y:Nat) (w:World) (hy:y≤100000):Calls Tryz.prog 27 #[.int .i64 (y:Int),.int .i64 6] w fun e w'=>e=.returned (.int .i64 ((mlen (qat y) 5:Nat):Int))∧Below w.heap.size w w':=by
 have hb:=Below.refl w.heap.size w
 have c0:(w.alloc (.cells #[.int .i64 31,.int .i64 28,.int .i64 31,.int .i64 30,.int .i64 31,.int .i64 30,.int .i64 31,.int .i64 31,.int .i64 30,.int .i64 31,.int .i64 30,.int .i64 31] 3)).cell? ⟨w.heap.size,5,none⟩=some (.int .i64 30):=by rw [cell_of_row _ w.heap.size 5 _ 3 (0,0) (qag w _)];rfl
 replace hb:=hb.trans ((qah w (.cells #[.int .i64 31,.int .i64 28,.int .i64 31,.int .i64 30,.int .i64 31,.int .i64 30,.int .i64 31,.int .i64 31,.int .i64 30,.int .i64 31,.int .i64 30,.int .i64 31] 3)).mono hb.size)
 have HM:Hid (mlen (qat y) 5=30):=hid (by rw [mlen,if_neg (by omega)];rfl)
 go_enter Tryz.func27,Tryz.ntmps27
 go_wp2_with fail
 go_ret
 exact ⟨by rw [HM.out];rfl,hb⟩
theorem rmonth6_any (y:Nat) (w:World) (hy:y≤100000):Calls Tryz.prog 27 #[.int .i64 (y:Int),.int .i64 7] w fun e w'=>e=.returned (.int .i64 ((mlen (qat y) 6:Nat):Int))∧Below w.heap.size w w':=by
 have hb:=Below.refl w.heap.size w
 have c0:(w.alloc (.cells #[.int .i64 31,.int .i64 28,.int .i64 31,.int .i64 30,.int .i64 31,.int .i64 30,.int .i64 31,.int .i64 31,.int .i64 30,.int .i64 31,.int .i64 30,.int .i64 31] 3)).cell? ⟨w.heap.size,6,none⟩=some (.int .i64 31):=by rw [cell_of_row _ w.heap.size 6 _ 3 (0,0) (qag w _)];rfl
 replace hb:=hb.trans ((qah w (.cells #[.int .i64 31,.int .i64 28,.int .i64 31,.int .i64 30,.int .i64 31,.int .i64 30,.int .i64 31,.int .i64 31,.int .i64 30,.int .i64 31,.int .i64 30,.int .i64 31] 3)).mono hb.size)
 have HM:Hid (mlen (qat y) 6=31):=hid (by rw [mlen,if_neg (by omega)];rfl)
 go_enter Tryz.func27,Tryz.ntmps27
 go_wp2_with fail
 go_ret
 exact ⟨by rw [HM.out];rfl,hb⟩
theorem rmonth7_any (y:Nat) (w:World) (hy:y≤100000):Calls Tryz.prog 27 #[.int .i64 (y:Int),.int .i64 8] w fun e w'=>e=.returned (.int .i64 ((mlen (qat y) 7:Nat):Int))∧Below w.heap.size w w':=by
 have hb:=Below.refl w.heap.size w
 have c0:(w.alloc (.cells #[.int .i64 31,.int .i64 28,.int .i64 31,.int .i64 30,.int .i64 31,.int .i64 30,.int .i64 31,.int .i64 31,.int .i64 30,.int .i64 31,.int .i64 30,.int .i64 31] 3)).cell? ⟨w.heap.size,7,none⟩=some (.int .i64 31):=by rw [cell_of_row _ w.heap.size 7 _ 3 (0,0) (qag w _)];rfl
 replace hb:=hb.trans ((qah w (.cells #[.int .i64 31,.int .i64 28,.int .i64 31,.int .i64 30,.int .i64 31,.int .i64 30,.int .i64 31,.int .i64 31,.int .i64 30,.int .i64 31,.int .i64 30,.int .i64 31] 3)).mono hb.size)
 have HM:Hid (mlen (qat y) 7=31):=hid (by rw [mlen,if_neg (by omega)];rfl)
 go_enter Tryz.func27,Tryz.ntmps27
 go_wp2_with fail
 go_ret
 exact ⟨by rw [HM.out];rfl,hb⟩
theorem rmonth8_any (y:Nat) (w:World) (hy:y≤100000):Calls Tryz.prog 27 #[.int .i64 (y:Int),.int .i64 9] w fun e w'=>e=.returned (.int .i64 ((mlen (qat y) 8:Nat):Int))∧Below w.heap.size w w':=by
 have hb:=Below.refl w.heap.size w
 have c0:(w.alloc (.cells #[.int .i64 31,.int .i64 28,.int .i64 31,.int .i64 30,.int .i64 31,.int .i64 30,.int .i64 31,.int .i64 31,.int .i64 30,.int .i64 31,.int .i64 30,.int .i64 31] 3)).cell? ⟨w.heap.size,8,none⟩=some (.int .i64 30):=by rw [cell_of_row _ w.heap.size 8 _ 3 (0,0) (qag w _)];rfl
 replace hb:=hb.trans ((qah w (.cells #[.int .i64 31,.int .i64 28,.int .i64 31,.int .i64 30,.int .i64 31,.int .i64 30,.int .i64 31,.int .i64 31,.int .i64 30,.int .i64 31,.int .i64 30,.int .i64 31] 3)).mono hb.size)
 have HM:Hid (mlen (qat y) 8=30):=hid (by rw [mlen,if_neg (by omega)];rfl)
 go_enter Tryz.func27,Tryz.ntmps27
 go_wp2_with fail
 go_ret
 exact ⟨by rw [HM.out];rfl,hb⟩
theorem rmonth9_any (y:Nat) (w:World) (hy:y≤100000):Calls Tryz.prog 27 #[.int .i64 (y:Int),.int .i64 10] w fun e w'=>e=.returned (.int .i64 ((mlen (qat y) 9:Nat):Int))∧Below w.heap.size w w':=by
 have hb:=Below.refl w.heap.size w
 have c0:(w.alloc (.cells #[.int .i64 31,.int .i64 28,.int .i64 31,.int .i64 30,.int .i64 31,.int .i64 30,.int .i64 31,.int .i64 31,.int .i64 30,.int .i64 31,.int .i64 30,.int .i64 31] 3)).cell? ⟨w.heap.size,9,none⟩=some (.int .i64 31):=by rw [cell_of_row _ w.heap.size 9 _ 3 (0,0) (qag w _)];rfl
 replace hb:=hb.trans ((qah w (.cells #[.int .i64 31,.int .i64 28,.int .i64 31,.int .i64 30,.int .i64 31,.int .i64 30,.int .i64 31,.int .i64 31,.int .i64 30,.int .i64 31,.int .i64 30,.int .i64 31] 3)).mono hb.size)
 have HM:Hid (mlen (qat y) 9=31):=hid (by rw [mlen,if_neg (by omega)];rfl)
 go_enter Tryz.func27,Tryz.ntmps27
 go_wp2_with fail
 go_ret
 exact ⟨by rw [HM.out];rfl,hb⟩
theorem rmonth10_any (y:Nat) (w:World) (hy:y≤100000):Calls Tryz.prog 27 #[.int .i64 (y:Int),.int .i64 11] w fun e w'=>e=.returned (.int .i64 ((mlen (qat y) 10:Nat):Int))∧Below w.heap.size w w':=by
 have hb:=Below.refl w.heap.size w
 have c0:(w.alloc (.cells #[.int .i64 31,.int .i64 28,.int .i64 31,.int .i64 30,.int .i64 31,.int .i64 30,.int .i64 31,.int .i64 31,.int .i64 30,.int .i64 31,.int .i64 30,.int .i64 31] 3)).cell? ⟨w.heap.size,10,none⟩=some (.int .i64 30):=by rw [cell_of_row _ w.heap.size 10 _ 3 (0,0) (qag w _)];rfl
 replace hb:=hb.trans ((qah w (.cells #[.int .i64 31,.int .i64 28,.int .i64 31,.int .i64 30,.int .i64 31,.int .i64 30,.int .i64 31,.int .i64 31,.int .i64 30,.int .i64 31,.int .i64 30,.int .i64 31] 3)).mono hb.size)
 have HM:Hid (mlen (qat y) 10=30):=hid (by rw [mlen,if_neg (by omega)];rfl)
 go_enter Tryz.func27,Tryz.ntmps27
 go_wp2_with fail
 go_ret
 exact ⟨by rw [HM.out];rfl,hb⟩
theorem rmonth11_any (y:Nat) (w:World) (hy:y≤100000):Calls Tryz.prog 27 #[.int .i64 (y:Int),.int .i64 12] w fun e w'=>e=.returned (.int .i64 ((mlen (qat y) 11:Nat):Int))∧Below w.heap.size w w':=by
 have hb:=Below.refl w.heap.size w
 have c0:(w.alloc (.cells #[.int .i64 31,.int .i64 28,.int .i64 31,.int .i64 30,.int .i64 31,.int .i64 30,.int .i64 31,.int .i64 31,.int .i64 30,.int .i64 31,.int .i64 30,.int .i64 31] 3)).cell? ⟨w.heap.size,11,none⟩=some (.int .i64 31):=by rw [cell_of_row _ w.heap.size 11 _ 3 (0,0) (qag w _)];rfl
 replace hb:=hb.trans ((qah w (.cells #[.int .i64 31,.int .i64 28,.int .i64 31,.int .i64 30,.int .i64 31,.int .i64 30,.int .i64 31,.int .i64 31,.int .i64 30,.int .i64 31,.int .i64 30,.int .i64 31] 3)).mono hb.size)
 have HM:Hid (mlen (qat y) 11=31):=hid (by rw [mlen,if_neg (by omega)];rfl)
 go_enter Tryz.func27,Tryz.ntmps27
 go_wp2_with fail
 go_ret
 exact ⟨by rw [HM.out];rfl,hb⟩
theorem rmonth_any (y j:Nat) (w:World) (hy:y≤100000) (hj:j<12) (m:Int) (hm:m=(j:Int)+1):Calls Tryz.prog 27 #[.int .i64 (y:Int),.int .i64 m] w fun e w'=>e=.returned (.int .i64 ((mlen (qat y) j:Nat):Int))∧Below w.heap.size w w':=by
 subst hm
 match j,hj with
 | 0,_=>exact rmonth0_any y w hy
 | 1,_=>exact rmonth1_any y w hy
 | 2,_=>exact rmonth2_any y w hy
 | 3,_=>exact rmonth3_any y w hy
 | 4,_=>exact rmonth4_any y w hy
 | 5,_=>exact rmonth5_any y w hy
 | 6,_=>exact rmonth6_any y w hy
 | 7,_=>exact rmonth7_any y w hy
 | 8,_=>exact rmonth8_any y w hy
 | 9,_=>exact rmonth9_any y w hy
 | 10,_=>exact rmonth10_any y w hy
 | 11,_=>exact rmonth11_any y w hy
 | j+12,h=>omega
set_option maxHeartbeats 2000000 in
theorem rdigits_any (n k:Nat) (w:World) (hn:n<9223372036854775808) (hk:k≤20):Calls Tryz.prog 28 #[.int .i64 (n:Int),.int .i64 (k:Int)] w fun e w'=>e=.returned (.string ⟨(digL k n).toArray⟩)∧Below w.heap.size w w':=by
 have hb:=Below.refl w.heap.size w;obtain ⟨G,hGG⟩:∃ G,digL k n=G:=⟨_,rfl⟩;have HGG:=hid hGG;clear hGG
 go_enter Tryz.func28,Tryz.ntmps28
 go_wp2_with fail
 go_loopw [0,5,6] (fun nv ov iv wr=>∃ (i m:Nat) (l:List UInt8),i≤k∧l.length=i∧m≤n∧nv=.int .i64 (m:Int)∧ov=.string ⟨l.toArray⟩∧iv=.int .i64 (i:Int)∧Hid (digL (k-i) m++l=G)∧Below w.heap.size w wr) (fun _ _ iv _=>k-(intOf iv).toNat)
 case atStart=>exact ⟨0,n,[],by omega,rfl,Nat.le_refl _,rfl,rfl,rfl,hid (by rw [List.append_nil];exact HGG.out),hb⟩
 case round=>
  clear hb;obtain ⟨i,m,l,hik,hl,hmn,rfl,rfl,rfl,HG,hb⟩:=hrel
  by_cases hlt:i<k
  ·have hd:decide ((i:Int)<(k:Int))=true:=by simp;omega
   have HG2:Hid (digL (k-(i+1)) (m / 10)++(UInt8.ofNat (48+m%10) :: l)=G):=hid (by
    have:=HG.out
    rw [show k-i=(k-(i+1))+1 by omega,digL,List.append_assoc] at this
    exact this)
   have hx:((UInt8.ofNat (48+m%10)).toNat:Int)=48+(m:Int)%10:=by rw [qcF _ (by omega)];simp
   generalize UInt8.ofNat (48+m%10)=b at *
   have ht:=text_row (wr.alloc (.cells #[.int .u8 (48+(m:Int)%10)] 5)) wr.heap.size 1 1 [b] rfl (by rw [qag];rw [← hx];rfl)
   have hsum:(⟨#[b]⟩:ByteArray).size+(⟨l.toArray⟩:ByteArray).size≤9223372036854775807:=by
    show 1+l.length≤_
    omega
   have HCAT:Hid ((⟨#[b]⟩:ByteArray)++⟨l.toArray⟩=⟨(b :: l).toArray⟩):=hid (by
    apply ByteArray.ext
    apply Array.toList_inj.1
    rw [ByteArray.data_append,Array.toList_append]
    rfl)
   have hb2:=hb.trans ((qah wr (.cells #[.int .u8 (48+(m:Int)%10)] 5)).mono hb.size);have HL:=hid hl
   rw [show (⟨[b].toArray⟩:ByteArray)=⟨#[b]⟩ from rfl] at ht
   obtain ⟨pb,hpb⟩:∃ pb,(⟨#[b]⟩:ByteArray)=pb:=⟨_,rfl⟩;obtain ⟨lb,hlb⟩:∃ lb,(⟨l.toArray⟩:ByteArray)=lb:=⟨_,rfl⟩;rw [hpb,hlb] at HCAT hsum;rw [hpb] at ht;rw [hlb];clear hpb hlb hx hb HG hl
   go_wp2_with fail
   go_roundw
   case rel=>exact ⟨i+1,m / 10,b :: l,by omega,by simp;exact HL.out,by omega,by first | rfl | (congr 1;unfold wrap64;omega),by rw [← HCAT.out],by go_num,HG2,hb2⟩
   case measure=>simp [intOf];omega
  ·have hd:decide ((i:Int)<(k:Int))=false:=by simp;omega
   obtain rfl:i=k:=by omega
   have HE:Hid (l=G):=hid (by have:=HG.out;rw [Nat.sub_self] at this;exact this)
   have HLL:Hid ((⟨l.toArray⟩:ByteArray)=⟨(digL i n).toArray⟩):=hid (by rw [HGG.out,HE.out])
   generalize (⟨l.toArray⟩:ByteArray)=L at *;clear HG HE
   go_wp2_with fail
   go_ret
   exact ⟨by first | (rw [HLL.out];done) | (rw [HLL.out];rfl),hb⟩
end
section
open Go.RowKit Go.Sort
theorem qct (z:Int) (w:World) (h0:0≤z) (h1:z≤1000000):Calls Tryz.prog 28 #[.int .i64 z,.int .i64 2] w fun e w'=>e=.returned (.string (dgB 2 z))∧Below w.heap.size w w':=by
 have h:=rdigits_any z.toNat 2 w (by omega) (by omega)
 rwa [show ((z.toNat:Nat):Int)=z by omega] at h
theorem rdig4_any (z:Int) (w:World) (h0:0≤z) (h1:z≤1000000):Calls Tryz.prog 28 #[.int .i64 z,.int .i64 4] w fun e w'=>e=.returned (.string (dgB 4 z))∧Below w.heap.size w w':=by
 have h:=rdigits_any z.toNat 4 w (by omega) (by omega)
 rwa [show ((z.toNat:Nat):Int)=z by omega] at h
set_option maxHeartbeats 16000000 in
theorem rTime_any (n:Int) (w:World) (h0:-9223372036854775808≤n) (h1:n≤9223372036854775807) :
  Calls Tryz.prog 11 #[.int .i64 n] w fun e w'=>e=.returned (.tuple #[.string (timX n),.int .i64 (timE n)])∧Below w.heap.size w w':=by
 have hb:=Below.refl w.heap.size w
 have CT:=hid (fun W=>qfH n W)
 by_cases ht:isTm n=true
 ·obtain ⟨n0,n1⟩:=(qc0 n).1 ht
  obtain ⟨N,rfl⟩:∃ N:Nat,n=(N:Int):=⟨n.toNat,by omega⟩
  have HX:Hid (timX (N:Int)=timB N∧timE (N:Int)=0):=hid ⟨by rw [timX,if_pos ht];rfl,if_pos ht⟩
  rw [ht] at CT;obtain ⟨D,hD⟩:∃ D,N / 86400=D:=⟨_,rfl⟩
  have hD1:(N:Int) / 86400=(D:Int):=by omega
  have hDm:D≤2932896:=by omega
  have HD:=hid hD;obtain ⟨sv,hsv⟩:∃ sv:Int,(N:Int)%86400=sv:=⟨_,rfl⟩
  have hs0:0≤sv∧sv<86400:=by omega
  have HSV:=hid hsv;have HN:=hid n1;clear ht n0 n1 h0 h1 hD
  go_enter Tryz.func11,Tryz.ntmps11
  go_wp2_with fail
  refine (CT.out w).mono ?_
  rintro e W1 ⟨rfl,bk⟩;replace hb:=hb.trans (bk.mono hb.size);clear bk CT
  go_wp2_with fail
  try rw [hD1]
  try rw [hsv]
  clear hD1 hsv
  go_loopw [4,6,7] (fun dv yv lv wr=>∃ (k r y:Nat),qbD k+r=D∧y=1970+k∧k≤8029∧dv=.int .i64 (r:Int)∧yv=.int .i64 (y:Int)∧Below w.heap.size w wr) (fun dv _ _ _=>(intOf dv).toNat)
  case atStart=>exact ⟨0,D,1970,by show 0+D=D;omega,rfl,by omega,rfl,rfl,hb⟩
  case round=>
   clear hb;obtain ⟨k,r,y,hk,hy,hk2,rfl,rfl,hb⟩:=hrel
   have CL:=hid (fun W=>rleap_any y W (by omega))
   have hyl:=ylen_le k
   have HYL:Hid (ylen k=if qat y=true then 366 else 365):=hid (by rw [ylen,hy])
   have HYK:=hid hy;have HKR:=hid hk
   have hr9:r≤2932896:=by omega
   have hy9:y≤100000:=by omega
   cases hl:qat y with
   | true=>
    rw [hl] at HYL CL;clear hl hk hy;have hyd:ylen k=366:=HYL.out;clear HYL;have HYD:=hid hyd;clear hyd hyl
    go_wp2_with fail
    refine (CL.out wr).mono ?_
    rintro e W2 ⟨rfl,bk⟩;replace hb:=hb.trans (bk.mono hb.size);clear bk CL
    by_cases hlt:r<366
    ·have hd:decide ((r:Int)<366)=true:=by simp;omega
     have HYR:Hid (yrOf D=(k,r)):=hid (yr_of D k r hDm HKR.out (by rw [HYD.out];exact hlt))
     obtain ⟨lp,hlp⟩:∃ lp,qat (1970+k)=lp:=⟨_,rfl⟩;have HLP:=hid hlp
     have HRL:Hid (r<qbg lp 12):=hid (by rw [← hlp,qeN,HYD.out];exact hlt)
     have hy2:y≤100000:=by have:=HYK.out;omega
     have hyk:=HYK.out
     rw [show qat (1970+k)=qat y by rw [hyk]] at hlp
     have CMO:=hid (fun (j:Nat) (hj:j<12) (m:Int) (hm:m=(j:Int)+1) W=>rmonth_any y j W hy2 hj m hm)
     rw [hlp] at CMO;clear hlp hyk HYD
     go_wp2_with fail
     go_loopw [4,8] (fun dv mv wr=>∃ (j e:Nat),qbg lp j+e=r∧j<12∧dv=.int .i64 (e:Int)∧mv=.int .i64 ((j:Int)+1)∧Below w.heap.size w wr) (fun dv _ _=>(intOf dv).toNat)
     case atStart=>exact ⟨0,r,by show 0+r=r;omega,by omega,rfl,rfl,hb⟩
     case round=>
      clear hb;obtain ⟨j,e,hje,hj12,rfl,rfl,hb⟩:=hrel;have CM:=hid (CMO.out j hj12 ((j:Int)+1) rfl);have hml:=qdx lp j;have HML:Hid (28≤mlen lp j):=hid (mlen_ge lp j hj12);obtain ⟨ml,hmm⟩:∃ ml,mlen lp j=ml:=⟨_,rfl⟩;rw [hmm] at CM hml HML;have HMM:=hid hmm;have HJE:=hid hje
      have he4:e≤400:=by omega
      clear hmm hje
      have wj:wrap64 ((j:Int)+1+1)=(j:Int)+1+1:=by unfold wrap64;omega
      by_cases hge:ml≤e
      ·have hdg:decide ((ml:Int)≤(e:Int))=true:=by simp;omega
       have HJN:Hid (j+1<12):=hid (by
        by_cases c:j=11
        ·exfalso
         have a:=HRL.out;have b:=HJE.out;have d:=HMM.out;subst c
         rw [show qbg lp 12=qbg lp 11+mlen lp 11 from rfl] at a
         omega
        ·omega)
       have HJE2:Hid (qbg lp (j+1)+(e-ml)=r):=hid (by rw [qbg,HMM.out];have:=HJE.out;omega)
       have hme:28≤ml:=HML.out;clear HJE
       go_wp2_with fail
       refine (CM.out _).mono ?_
       rintro ee W3 ⟨rfl,bk⟩;replace hb:=hb.trans (bk.mono hb.size);clear bk
       go_wp2_with fail
       refine (CM.out _).mono ?_
       rintro ee W4 ⟨rfl,bk⟩;replace hb:=hb.trans (bk.mono hb.size);clear bk CM
       go_wp2_with fail
       go_roundw
       case rel=>exact ⟨j+1,e-ml,HJE2.out,HJN.out,by first | (congr 1;unfold wrap64;omega) | (congr 1;omega),by first | (congr 1;unfold wrap64;omega) | (congr 1;omega) | rfl,hb⟩
       case measure=>simp [intOf];(try unfold wrap64);omega
      ·have hdg:decide ((ml:Int)≤(e:Int))=false:=by simp;omega
       have HMO:Hid (moOf D=(j,e)):=hid (mo_of D j e hDm (by rw [HYR.out];simp only;rw [HLP.out];exact HJE.out) (by rw [HYR.out];simp only;rw [HLP.out,HMM.out];omega))
       have hyk2:(y:Int)=((1970+k:Nat):Int):=by rw [HYK.out]
       have HTB:Hid (timB N=dgB 4 (y:Int)++dgB 2 ((j:Int)+1)++dgB 2 ((e:Int)+1)++dgB 2 (sv / 3600)++dgB 2 (sv / 60%60)++dgB 2 (sv%60)++⟨#[90]⟩):=hid (by rw [hyk2,← HSV.out];exact qfY N k r j e (by have:=HN.out;omega) (by rw [HD.out];exact HYR.out) (by rw [HD.out];exact HMO.out))
       have C1:=hid (fun W=>rdig4_any (y:Int) W (by omega) (by omega))
       have C2:=hid (fun W=>qct ((j:Int)+1) W (by omega) (by omega))
       have C3:=hid (fun W=>qct ((e:Int)+1) W (by omega) (by omega))
       have C4:=hid (fun W=>qct (sv / 3600) W (by omega) (by omega))
       have C5:=hid (fun W=>qct (sv / 60%60) W (by omega) (by omega))
       have C6:=hid (fun W=>qct (sv%60) W (by omega) (by omega))
       have z1:=qbA 4 (y:Int);have z2:=qbA 2 ((j:Int)+1);have z3:=qbA 2 ((e:Int)+1);have z4:=qbA 2 (sv / 3600);have z5:=qbA 2 (sv / 60%60);have z6:=qbA 2 (sv%60);generalize dgB 4 (y:Int)=A1 at *;generalize dgB 2 ((j:Int)+1)=A2 at *;generalize dgB 2 ((e:Int)+1)=A3 at *;generalize dgB 2 (sv / 3600)=A4 at *;generalize dgB 2 (sv / 60%60)=A5 at *;generalize dgB 2 (sv%60)=A6 at *
       have k1:A1.size+A2.size≤9223372036854775807:=by omega
       have k2:A1.size+A2.size+A3.size≤9223372036854775807:=by omega
       have k3:A1.size+A2.size+A3.size+A4.size≤9223372036854775807:=by omega
       have k4:A1.size+A2.size+A3.size+A4.size+A5.size≤9223372036854775807:=by omega
       have k5:A1.size+A2.size+A3.size+A4.size+A5.size+A6.size≤9223372036854775807:=by omega
       have k6:A1.size+A2.size+A3.size+A4.size+A5.size+A6.size+1≤9223372036854775807:=by omega
       clear z1 z2 z3 z4 z5 z6 HMO HJE hyk2 HML HRL HLP HYR HKR HYK HD HSV HN
       go_wp2_with fail
       refine (CM.out _).mono ?_
       rintro ee W3 ⟨rfl,bk⟩;replace hb:=hb.trans (bk.mono hb.size);clear bk CM CMO
       go_wp2_with fail
       refine (C1.out _).mono ?_
       rintro ee V1 ⟨rfl,bk⟩;replace hb:=hb.trans (bk.mono hb.size);clear bk C1
       go_wp2_with fail
       refine (C2.out _).mono ?_
       rintro ee V2 ⟨rfl,bk⟩;replace hb:=hb.trans (bk.mono hb.size);clear bk C2
       go_wp2_with fail
       refine (C3.out _).mono ?_
       rintro ee V3 ⟨rfl,bk⟩;replace hb:=hb.trans (bk.mono hb.size);clear bk C3
       go_wp2_with fail
       refine (C4.out _).mono ?_
       rintro ee V4 ⟨rfl,bk⟩;replace hb:=hb.trans (bk.mono hb.size);clear bk C4
       go_wp2_with fail
       refine (C5.out _).mono ?_
       rintro ee V5 ⟨rfl,bk⟩;replace hb:=hb.trans (bk.mono hb.size);clear bk C5
       go_wp2_with fail
       refine (C6.out _).mono ?_
       rintro ee V6 ⟨rfl,bk⟩;replace hb:=hb.trans (bk.mono hb.size);clear bk C6
       go_wp2_with fail
       go_ret2
       exact ⟨by rw [HX.out.1,HX.out.2,HTB.out];rfl,hb⟩
    ·have hd:decide ((r:Int)<366)=false:=by simp;omega
     have hr:366≤r:=by omega
     have HK2:Hid (qbD (k+1)+(r-366)=D):=hid (by rw [qbD,HYD.out];have:=HKR.out;omega)
     have HK3:Hid (k+1≤8029):=hid (by
      by_cases c:k=8029
      ·exfalso
       have a:=qdN 8030 9999 rfl;have b:=HK2.out;rw [c] at b
       change qbD 8030+_=D at b
       omega
      ·omega)
     have HY2:Hid (y+1=1970+(k+1)):=hid (by have:=HYK.out;omega)
     clear HKR HYK HYD
     go_wp2_with fail
     go_roundw
     case rel=>exact ⟨k+1,r-366,y+1,HK2.out,HY2.out,HK3.out,by first | (congr 1;unfold wrap64;omega) | (congr 1;omega),by go_num,hb⟩
     case measure=>simp [intOf];(try unfold wrap64);omega
   | false=>
    rw [hl] at HYL CL;clear hl hk hy;have hyd:ylen k=365:=HYL.out;clear HYL;have HYD:=hid hyd;clear hyd hyl
    go_wp2_with fail
    refine (CL.out wr).mono ?_
    rintro e W2 ⟨rfl,bk⟩;replace hb:=hb.trans (bk.mono hb.size);clear bk CL
    by_cases hlt:r<365
    ·have hd:decide ((r:Int)<365)=true:=by simp;omega
     have HYR:Hid (yrOf D=(k,r)):=hid (yr_of D k r hDm HKR.out (by rw [HYD.out];exact hlt))
     obtain ⟨lp,hlp⟩:∃ lp,qat (1970+k)=lp:=⟨_,rfl⟩;have HLP:=hid hlp
     have HRL:Hid (r<qbg lp 12):=hid (by rw [← hlp,qeN,HYD.out];exact hlt)
     have hy2:y≤100000:=by have:=HYK.out;omega
     have hyk:=HYK.out
     rw [show qat (1970+k)=qat y by rw [hyk]] at hlp
     have CMO:=hid (fun (j:Nat) (hj:j<12) (m:Int) (hm:m=(j:Int)+1) W=>rmonth_any y j W hy2 hj m hm)
     rw [hlp] at CMO;clear hlp hyk HYD
     go_wp2_with fail
     go_loopw [4,8] (fun dv mv wr=>∃ (j e:Nat),qbg lp j+e=r∧j<12∧dv=.int .i64 (e:Int)∧mv=.int .i64 ((j:Int)+1)∧Below w.heap.size w wr) (fun dv _ _=>(intOf dv).toNat)
     case atStart=>exact ⟨0,r,by show 0+r=r;omega,by omega,rfl,rfl,hb⟩
     case round=>
      clear hb;obtain ⟨j,e,hje,hj12,rfl,rfl,hb⟩:=hrel;have CM:=hid (CMO.out j hj12 ((j:Int)+1) rfl);have hml:=qdx lp j;have HML:Hid (28≤mlen lp j):=hid (mlen_ge lp j hj12);obtain ⟨ml,hmm⟩:∃ ml,mlen lp j=ml:=⟨_,rfl⟩;rw [hmm] at CM hml HML;have HMM:=hid hmm;have HJE:=hid hje
      have he4:e≤400:=by omega
      clear hmm hje
      have wj:wrap64 ((j:Int)+1+1)=(j:Int)+1+1:=by unfold wrap64;omega
      by_cases hge:ml≤e
      ·have hdg:decide ((ml:Int)≤(e:Int))=true:=by simp;omega
       have HJN:Hid (j+1<12):=hid (by
        by_cases c:j=11
        ·exfalso
         have a:=HRL.out;have b:=HJE.out;have d:=HMM.out;subst c
         rw [show qbg lp 12=qbg lp 11+mlen lp 11 from rfl] at a
         omega
        ·omega)
       have HJE2:Hid (qbg lp (j+1)+(e-ml)=r):=hid (by rw [qbg,HMM.out];have:=HJE.out;omega)
       have hme:28≤ml:=HML.out;clear HJE
       go_wp2_with fail
       refine (CM.out _).mono ?_
       rintro ee W3 ⟨rfl,bk⟩;replace hb:=hb.trans (bk.mono hb.size);clear bk
       go_wp2_with fail
       refine (CM.out _).mono ?_
       rintro ee W4 ⟨rfl,bk⟩;replace hb:=hb.trans (bk.mono hb.size);clear bk CM
       go_wp2_with fail
       go_roundw
       case rel=>exact ⟨j+1,e-ml,HJE2.out,HJN.out,by first | (congr 1;unfold wrap64;omega) | (congr 1;omega),by first | (congr 1;unfold wrap64;omega) | (congr 1;omega) | rfl,hb⟩
       case measure=>simp [intOf];(try unfold wrap64);omega
      ·have hdg:decide ((ml:Int)≤(e:Int))=false:=by simp;omega
       have HMO:Hid (moOf D=(j,e)):=hid (mo_of D j e hDm (by rw [HYR.out];simp only;rw [HLP.out];exact HJE.out) (by rw [HYR.out];simp only;rw [HLP.out,HMM.out];omega))
       have hyk2:(y:Int)=((1970+k:Nat):Int):=by rw [HYK.out]
       have HTB:Hid (timB N=dgB 4 (y:Int)++dgB 2 ((j:Int)+1)++dgB 2 ((e:Int)+1)++dgB 2 (sv / 3600)++dgB 2 (sv / 60%60)++dgB 2 (sv%60)++⟨#[90]⟩):=hid (by rw [hyk2,← HSV.out];exact qfY N k r j e (by have:=HN.out;omega) (by rw [HD.out];exact HYR.out) (by rw [HD.out];exact HMO.out))
       have C1:=hid (fun W=>rdig4_any (y:Int) W (by omega) (by omega))
       have C2:=hid (fun W=>qct ((j:Int)+1) W (by omega) (by omega))
       have C3:=hid (fun W=>qct ((e:Int)+1) W (by omega) (by omega))
       have C4:=hid (fun W=>qct (sv / 3600) W (by omega) (by omega))
       have C5:=hid (fun W=>qct (sv / 60%60) W (by omega) (by omega))
       have C6:=hid (fun W=>qct (sv%60) W (by omega) (by omega))
       have z1:=qbA 4 (y:Int);have z2:=qbA 2 ((j:Int)+1);have z3:=qbA 2 ((e:Int)+1);have z4:=qbA 2 (sv / 3600);have z5:=qbA 2 (sv / 60%60);have z6:=qbA 2 (sv%60);generalize dgB 4 (y:Int)=A1 at *;generalize dgB 2 ((j:Int)+1)=A2 at *;generalize dgB 2 ((e:Int)+1)=A3 at *;generalize dgB 2 (sv / 3600)=A4 at *;generalize dgB 2 (sv / 60%60)=A5 at *;generalize dgB 2 (sv%60)=A6 at *
       have k1:A1.size+A2.size≤9223372036854775807:=by omega
       have k2:A1.size+A2.size+A3.size≤9223372036854775807:=by omega
       have k3:A1.size+A2.size+A3.size+A4.size≤9223372036854775807:=by omega
       have k4:A1.size+A2.size+A3.size+A4.size+A5.size≤9223372036854775807:=by omega
       have k5:A1.size+A2.size+A3.size+A4.size+A5.size+A6.size≤9223372036854775807:=by omega
       have k6:A1.size+A2.size+A3.size+A4.size+A5.size+A6.size+1≤9223372036854775807:=by omega
       clear z1 z2 z3 z4 z5 z6 HMO HJE hyk2 HML HRL HLP HYR HKR HYK HD HSV HN
       go_wp2_with fail
       refine (CM.out _).mono ?_
       rintro ee W3 ⟨rfl,bk⟩;replace hb:=hb.trans (bk.mono hb.size);clear bk CM CMO
       go_wp2_with fail
       refine (C1.out _).mono ?_
       rintro ee V1 ⟨rfl,bk⟩;replace hb:=hb.trans (bk.mono hb.size);clear bk C1
       go_wp2_with fail
       refine (C2.out _).mono ?_
       rintro ee V2 ⟨rfl,bk⟩;replace hb:=hb.trans (bk.mono hb.size);clear bk C2
       go_wp2_with fail
       refine (C3.out _).mono ?_
       rintro ee V3 ⟨rfl,bk⟩;replace hb:=hb.trans (bk.mono hb.size);clear bk C3
       go_wp2_with fail
       refine (C4.out _).mono ?_
       rintro ee V4 ⟨rfl,bk⟩;replace hb:=hb.trans (bk.mono hb.size);clear bk C4
       go_wp2_with fail
       refine (C5.out _).mono ?_
       rintro ee V5 ⟨rfl,bk⟩;replace hb:=hb.trans (bk.mono hb.size);clear bk C5
       go_wp2_with fail
       refine (C6.out _).mono ?_
       rintro ee V6 ⟨rfl,bk⟩;replace hb:=hb.trans (bk.mono hb.size);clear bk C6
       go_wp2_with fail
       go_ret2
       exact ⟨by rw [HX.out.1,HX.out.2,HTB.out];rfl,hb⟩
    ·have hd:decide ((r:Int)<365)=false:=by simp;omega
     have hr:365≤r:=by omega
     have HK2:Hid (qbD (k+1)+(r-365)=D):=hid (by rw [qbD,HYD.out];have:=HKR.out;omega)
     have HK3:Hid (k+1≤8029):=hid (by
      by_cases c:k=8029
      ·exfalso
       have a:=qdN 8030 9999 rfl;have b:=HK2.out;rw [c] at b
       change qbD 8030+_=D at b
       omega
      ·omega)
     have HY2:Hid (y+1=1970+(k+1)):=hid (by have:=HYK.out;omega)
     clear HKR HYK HYD
     go_wp2_with fail
     go_roundw
     case rel=>exact ⟨k+1,r-365,y+1,HK2.out,HY2.out,HK3.out,by first | (congr 1;unfold wrap64;omega) | (congr 1;omega),by go_num,hb⟩
     case measure=>simp [intOf];(try unfold wrap64);omega
 ·have ht':isTm n=false:=by simpa using ht
  have HX:Hid (timX n=⟨#[]⟩∧timE n=1):=hid ⟨if_neg ht,if_neg ht⟩;rw [ht'] at CT;clear ht ht'
  go_enter Tryz.func11,Tryz.ntmps11
  go_wp2_with fail
  refine (CT.out w).mono ?_
  rintro e W1 ⟨rfl,bk⟩;replace hb:=hb.trans (bk.mono hb.size);clear bk
  go_wp2_with fail
  go_ret2
  exact ⟨by rw [HX.out.1,HX.out.2];rfl,hb⟩
end
section
open Go.RowKit Go.Sort
theorem all_bytes (l:List UInt8) (p:UInt8→Bool) (q:Nat→Prop) (hpq:∀ x:UInt8,p x=true↔q x.toNat):l.all p=true↔∀ i,i<l.length→q (rdB l i):=by
 rw [List.all_eq_true]
 constructor
 ·intro h i hi
  rw [rdB,List.getD_eq_getElem?_getD,List.getElem?_eq_getElem hi,Option.getD_some];exact (hpq _).1 (h _ (List.getElem_mem hi))
 ·intro h x hx
  obtain ⟨i,hi,rfl⟩:=List.mem_iff_getElem.1 hx
  have:=h i hi
  rw [rdB,List.getD_eq_getElem?_getD,List.getElem?_eq_getElem hi,Option.getD_some] at this;exact (hpq _).2 this
theorem nm_all (s:ByteArray):(s.data.toList.all fun x=>decide (32≤x.toNat)&&decide (x.toNat≤126))=true↔∀ i,i<s.size→32≤rdB s.data.toList i∧rdB s.data.toList i≤126:=by
 rw [all_bytes s.data.toList _ (fun b=>32≤b∧b≤126) (fun x=>by simp),← Lib.size_eq]
theorem isNm_bad (s:ByteArray) (k:Nat) (hk:k<s.size) (h:¬ (32≤rdB s.data.toList k∧rdB s.data.toList k≤126)):isNm s=false:=by
 rw [isNm]
 cases e:(s.data.toList.all fun x=>decide (32≤x.toNat)&&decide (x.toNat≤126)) with
 | false=>rw [Bool.and_false]
 | true=>exact absurd ((nm_all s).1 e k hk) h
theorem isNm_good (s:ByteArray) (h:∀ i,i<s.size→32≤rdB s.data.toList i∧rdB s.data.toList i≤126):isNm s=(decide (1≤s.size)&&decide (s.size≤32)):=by
 rw [isNm,(nm_all s).2 h,Bool.and_true]
set_option maxHeartbeats 4000000 in
theorem rIsName_any (s:ByteArray) (w:World) (hs:s.size≤1000000000):Calls Tryz.prog 58 #[.string s] w fun e w'=>e=.returned (.bool (isNm s))∧Below w.heap.size w w':=by
 have hb:=Below.refl w.heap.size w
 have HAT:=hid (fun k (h:k<s.size)=>rd_at s k h)
 have HLT:=hid (fun k=>qcR s.data.toList k)
 go_enter Tryz.func58,Tryz.ntmps58
 go_wp2_with fail
 go_loopw [3] (fun iv wr=>∃ k:Nat,k≤s.size∧iv=.int .i64 (k:Int)∧(∀ i,i<k→32≤rdB s.data.toList i∧rdB s.data.toList i≤126)∧w=wr) (fun iv _=>s.size-(intOf iv).toNat)
 case atStart=>exact ⟨0,by omega,rfl,fun i hi=>by omega,rfl⟩
 case round=>
  obtain ⟨k,hk,rfl,hpre,rfl⟩:=hrel;have HP:=hid hpre;clear hpre
  by_cases hlt:k<s.size
  ·have hd:decide ((k:Int)<(s.size:Int))=true:=by simp;omega
   have hik:(k:Int)<(s.size:Int):=by omega
   have tk:=HAT.out k hlt;have hb256:=HLT.out k;obtain ⟨b,hbb⟩:∃ b,rdB s.data.toList k=b:=⟨_,rfl⟩;rw [hbb] at tk hb256;have HBB:=hid hbb;clear hbb
   by_cases c1:b<32
   ·have d1:decide ((b:Int)<32)=true:=by simp;omega
    have HF:Hid (isNm s=false):=hid (isNm_bad s k hlt (by rw [HBB.out];omega))
    clear HBB HP HAT HLT
    go_wp2_with fail
    go_ret
    exact ⟨by rw [HF.out];rfl,hb⟩
   ·have d1:decide ((b:Int)<32)=false:=by simp;omega
    by_cases c2:126<b
    ·have d2:decide ((126:Int)<(b:Int))=true:=by simp;omega
     have HF:Hid (isNm s=false):=hid (isNm_bad s k hlt (by rw [HBB.out];omega))
     clear HBB HP HAT HLT
     go_wp2_with fail
     go_ret
     exact ⟨by rw [HF.out];rfl,hb⟩
    ·have d2:decide ((126:Int)<(b:Int))=false:=by simp;omega
     have HP2:Hid (∀ i,i<k+1→32≤rdB s.data.toList i∧rdB s.data.toList i≤126):=hid (fun i hi=>by
      by_cases c:i<k
      ·exact HP.out i c
      ·obtain rfl:i=k:=by omega
       rw [HBB.out];omega)
     clear HBB HP HAT HLT
     go_wp2_with fail
     go_roundw
     case rel=>exact ⟨k+1,by omega,by go_num,HP2.out,by first | rfl | trivial⟩
     case measure=>simp [intOf];omega
  ·have hd:decide ((k:Int)<(s.size:Int))=false:=by simp;omega
   obtain rfl:k=s.size:=by omega
   have HG:=hid (isNm_good s HP.out);clear HP HAT HLT
   by_cases c1:1≤s.size
   ·have d1:decide ((1:Int)≤(s.size:Int))=true:=by simp;omega
    by_cases c2:s.size≤32
    ·have d2:decide ((s.size:Int)≤32)=true:=by simp;omega
     have HF:Hid (isNm s=true):=hid (by rw [HG.out,decide_eq_true c1,decide_eq_true c2];rfl)
     clear HG c1 c2
     go_wp2_with fail
     go_ret
     exact ⟨by rw [HF.out];rfl,hb⟩
    ·have d2:decide ((s.size:Int)≤32)=false:=by simp;omega
     have HF:Hid (isNm s=false):=hid (by rw [HG.out,decide_eq_false c2,Bool.and_false])
     clear HG c1 c2
     go_wp2_with fail
     go_ret
     exact ⟨by rw [HF.out];rfl,hb⟩
   ·have d1:decide ((1:Int)≤(s.size:Int))=false:=by simp;omega
    have HF:Hid (isNm s=false):=hid (by rw [HG.out,decide_eq_false c1,Bool.false_and])
    clear HG c1
    go_wp2_with fail
    go_ret
    exact ⟨by rw [HF.out];rfl,hb⟩
end
section
open Go.RowKit Go.Sort
theorem qbH (tag:Int) (b:ByteArray) (w:World) (h0:-9223372036854775808≤tag) (h1:tag≤9223372036854775807):Calls Tryz.prog 63 #[.int .i64 tag,.string b] w fun e w'=>e=.returned (.string (wrX tag b))∧Below w.heap.size w w':=by
 have hb:=Below.refl w.heap.size w
 have CW:=hid (fun W=>qcZ tag b W h0 h1)
 generalize wrX tag b=x at *;generalize wrE tag b=q at *;clear h0 h1
 go_enter Tryz.func63,Tryz.ntmps63
 go_wp2_with fail
 refine (CW.out w).mono ?_
 rintro e W1 ⟨rfl,bk⟩;replace hb:=hb.trans (bk.mono hb.size);clear bk
 go_wp2_with fail
 go_ret
 exact ⟨rfl,hb⟩
theorem four_ints (W:World) (a b c d:Int):IntsAt (W.alloc (.cells #[.int .i64 a,.int .i64 b,.int .i64 c,.int .i64 d] 3)) (some ⟨W.heap.size,0,none⟩) [a,b,c,d]:=fun j hj=>⟨W.heap.size,0,rfl,by
 rw [Nat.zero_add,cell_of_row _ W.heap.size j _ 3 (0,0) (qag W _)]
 match j,hj with
 | 0,_=>rfl
 | 1,_=>rfl
 | 2,_=>rfl
 | 3,_=>rfl
 | j+4,hj=>simp at hj;omega⟩
theorem four_bounds (a b c d:Int) (ha:0≤a∧a≤1000) (hb:0≤b∧b≤1000) (hc:0≤c∧c≤1000) (hd:0≤d∧d≤1000) (k:Nat):(-9223372036854775808:Int)≤[a,b,c,d].getD k 0∧[a,b,c,d].getD k 0≤9223372036854775807:=by
 match k with
 | 0=>simp;omega
 | 1=>simp;omega
 | 2=>simp;omega
 | 3=>simp;omega
 | k+4=>simp
theorem rAlg_any (w:World):Calls Tryz.prog 61 #[] w fun e w'=>e=.returned (.string algB)∧Below w.heap.size w w':=by
 have hb:=Below.refl w.heap.size w
 have C2:=hid (fun ao (W:World) (hI:IntsAt W ao [1,3,101,112])=>rOid_any ao 4 4 [1,3,101,112] W rfl (by decide) (four_bounds 1 3 101 112 (by decide) (by decide) (by decide) (by decide)) hI)
 have CT:=hid (fun W=>qbH 48 (oidX [1,3,101,112]) W (by decide) (by decide))
 rw [show wrX 48 (oidX [1,3,101,112])=algB from rfl] at CT
 have HA:Hid (algB=algB):=hid rfl;generalize algB=al at *;generalize oidX [1,3,101,112]=ob at *;generalize qbC [1,3,101,112]=oe at *;have HIN:=four_ints w 1 3 101 112;have bn:=qah w (.cells #[.int .i64 1,.int .i64 3,.int .i64 101,.int .i64 112] 3)
 go_enter Tryz.func61,Tryz.ntmps61
 go_wp2_with fail
 refine (C2.out _ _ HIN).mono ?_
 rintro e W2 ⟨rfl,bk⟩;replace hb:=bn.trans (bk.mono bn.size);clear bk bn HIN C2
 go_wp2_with fail
 refine (CT.out _).mono ?_
 rintro e W3 ⟨rfl,bk⟩;replace hb:=hb.trans (bk.mono hb.size);clear bk
 go_wp2_with fail
 go_ret
 exact ⟨rfl,hb⟩
theorem rNamed_any (nm:ByteArray) (w:World) (hn:nm.size≤1000000000):Calls Tryz.prog 62 #[.string nm] w fun e w'=>e=.returned (.string (qaB nm))∧Below w.heap.size w w':=by
 have hb:=Below.refl w.heap.size w
 have C2:=hid (fun ao (W:World) (hI:IntsAt W ao [2,5,4,3])=>rOid_any ao 4 4 [2,5,4,3] W rfl (by decide) (four_bounds 2 5 4 3 (by decide) (by decide) (by decide) (by decide)) hI)
 have T1:=hid (fun W=>qbH 12 nm W (by decide) (by decide))
 have T2:=hid (fun W=>qbH 48 (oidX [2,5,4,3]++wrX 12 nm) W (by decide) (by decide))
 have T3:=hid (fun W=>qbH 49 (wrX 48 (oidX [2,5,4,3]++wrX 12 nm)) W (by decide) (by decide))
 have T4:=hid (fun W=>qbH 48 (wrX 49 (wrX 48 (oidX [2,5,4,3]++wrX 12 nm))) W (by decide) (by decide))
 rw [show wrX 48 (wrX 49 (wrX 48 (oidX [2,5,4,3]++wrX 12 nm)))=qaB nm from rfl] at T4
 have h1:=qcj 12 nm
 have h2:(oidX [2,5,4,3]).size=5:=by decide
 have hsum:(oidX [2,5,4,3]).size+(wrX 12 nm).size≤9223372036854775807:=by omega
 generalize qaB nm=nb at *;generalize wrX 49 (wrX 48 (oidX [2,5,4,3]++wrX 12 nm))=x3 at *;generalize wrX 48 (oidX [2,5,4,3]++wrX 12 nm)=x2 at *;generalize wrX 12 nm=x1 at *;generalize oidX [2,5,4,3]=ob at *;generalize qbC [2,5,4,3]=oe at *;clear h1 h2 hn;have HIN:=four_ints w 2 5 4 3;have bn:=qah w (.cells #[.int .i64 2,.int .i64 5,.int .i64 4,.int .i64 3] 3)
 go_enter Tryz.func62,Tryz.ntmps62
 go_wp2_with fail
 refine (C2.out _ _ HIN).mono ?_
 rintro e W2 ⟨rfl,bk⟩;replace hb:=bn.trans (bk.mono bn.size);clear bk bn HIN C2
 go_wp2_with fail
 refine (T1.out _).mono ?_
 rintro e W3 ⟨rfl,bk⟩;replace hb:=hb.trans (bk.mono hb.size);clear bk
 go_wp2_with fail
 refine (T2.out _).mono ?_
 rintro e W4 ⟨rfl,bk⟩;replace hb:=hb.trans (bk.mono hb.size);clear bk
 go_wp2_with fail
 refine (T3.out _).mono ?_
 rintro e W5 ⟨rfl,bk⟩;replace hb:=hb.trans (bk.mono hb.size);clear bk
 go_wp2_with fail
 refine (T4.out _).mono ?_
 rintro e W6 ⟨rfl,bk⟩;replace hb:=hb.trans (bk.mono hb.size);clear bk
 go_wp2_with fail
 go_ret
 exact ⟨rfl,hb⟩
theorem rWhole_any (inn sig:ByteArray) (w:World) (hn:inn.size≤1000000000) (hs:sig.size≤1000000000):Calls Tryz.prog 37 #[.string inn,.string sig] w fun e w'=>e=.returned (.string (whoB inn sig))∧Below w.heap.size w w':=by
 have hb:=Below.refl w.heap.size w;have CA:=hid rAlg_any
 have T1:=hid (fun W=>qbH 3 (qay++sig) W (by decide) (by decide))
 have T2:=hid (fun W=>qbH 48 (inn++algB++wrX 3 (qay++sig)) W (by decide) (by decide))
 rw [show wrX 48 (inn++algB++wrX 3 (qay++sig))=whoB inn sig from rfl] at T2
 have h1:=qcj 3 (qay++sig);have h2:=qcG sig
 have h3:algB.size=7:=by rw [qej];rfl
 have k1:inn.size+algB.size≤9223372036854775807:=by omega
 have k2:1+sig.size≤9223372036854775807:=by omega
 have k3:inn.size+algB.size+(wrX 3 (qay++sig)).size≤9223372036854775807:=by omega
 rw [show qay=(⟨#[0]⟩:ByteArray) from rfl] at *
 generalize whoB inn sig=wb at *;generalize wrX 3 (⟨#[0]⟩++sig)=x1 at *;generalize algB=al at *;clear h1 h2 h3 hn hs
 go_enter Tryz.func37,Tryz.ntmps37
 go_wp2_with fail
 refine (CA.out _).mono ?_
 rintro e W2 ⟨rfl,bk⟩;replace hb:=hb.trans (bk.mono hb.size);clear bk
 go_wp2_with fail
 refine (T1.out _).mono ?_
 rintro e W3 ⟨rfl,bk⟩;replace hb:=hb.trans (bk.mono hb.size);clear bk
 go_wp2_with fail
 refine (T2.out _).mono ?_
 rintro e W4 ⟨rfl,bk⟩;replace hb:=hb.trans (bk.mono hb.size);clear bk
 go_wp2_with fail
 go_ret
 exact ⟨rfl,hb⟩
end
section
open Go.RowKit Go.Sort
def cerL (c:CertF):Array Value:=#[.int .i64 c.ser,.string c.nm,.int .i64 c.fr,.int .i64 c.to,.string c.key]
theorem qal {W:World} {g:Nat} {t:TypeId} {sr:Int} {b:ByteArray} {d e:Int} {f:ByteArray} (h:W.heap[g]?=some (.cells #[.int .i64 sr,.string b,.int .i64 d,.int .i64 e,.string f] t)) :
  W.cell? ⟨g,0,none⟩=some (.int .i64 sr)∧W.cell? ⟨g,1,none⟩=some (.string b)∧W.cell? ⟨g,2,none⟩=some (.int .i64 d)∧W.cell? ⟨g,3,none⟩=some (.int .i64 e)∧W.cell? ⟨g,4,none⟩=some (.string f):=by
 refine ⟨?_,?_,?_,?_,?_⟩ <;> (rw [cell_of_row W g _ _ t (0,0) h];rfl)
set_option maxHeartbeats 8000000 in
theorem rRight_any (sr:Int) (b:ByteArray) (d e:Int) (f:ByteArray) (w:World) (hs:b.size≤1000000000):Calls Tryz.prog 33 #[.agg #[.int .i64 sr,.string b,.int .i64 d,.int .i64 e,.string f]] w fun ee w'=>ee=.returned (.bool (qbh ⟨sr,b,d,e,f⟩))∧Below w.heap.size w w':=by
 have CN:=hid (fun W=>rIsName_any b W hs)
 have CF:=hid (fun W=>qfH d W)
 have CT:=hid (fun W=>qfH e W)
 have HR:Hid (qbh ⟨sr,b,d,e,f⟩=(decide (1≤sr)&&isNm b&&isTm d&&isTm e&&decide (d≤e))):=hid rfl;clear hs
 by_cases h1:1≤sr
 ·have d1:decide (1≤sr)=true:=decide_eq_true h1
  cases hn:isNm b with
  | true=>
   rw [hn] at CN
   cases hf:isTm d with
   | true=>
    rw [hf] at CF
    cases ht:isTm e with
    | true=>
     rw [ht] at CT
     by_cases h2:d≤e
     ·have d2:decide (d≤e)=true:=decide_eq_true h2
      have HV:Hid (qbh ⟨sr,b,d,e,f⟩=true):=hid (by rw [HR.out];simp [d1,hn,hf,ht,d2])
      clear HR hn hf ht h1 h2;have HG:=hid (qag w (.cells #[.int .i64 sr,.string b,.int .i64 d,.int .i64 e,.string f] 28));have hb:=qah w (.cells #[.int .i64 sr,.string b,.int .i64 d,.int .i64 e,.string f] 28);obtain ⟨c0,c1,c2,c3,c4⟩:=qal HG.out
      go_enter Tryz.func33,Tryz.ntmps33
      go_wp2_with fail
      generalize (w.alloc _)=W0 at *;generalize hgg:w.heap.size=g at *;have HGG:=hid hgg;clear hgg
      refine (CN.out _).mono ?_
      rintro ee V0 ⟨rfl,bk⟩;replace hb:=hb.trans (bk.mono (Nat.le_of_lt (qab HG.out)));replace HG:=hid (qaa bk (qab HG.out) HG.out);clear bk CN c0 c1 c2 c3 c4;obtain ⟨c0,c1,c2,c3,c4⟩:=qal HG.out
      go_wp2_with fail
      refine (CF.out _).mono ?_
      rintro ee V1 ⟨rfl,bk⟩;replace hb:=hb.trans (bk.mono (Nat.le_of_lt (qab HG.out)));replace HG:=hid (qaa bk (qab HG.out) HG.out);clear bk CF c0 c1 c2 c3 c4;obtain ⟨c0,c1,c2,c3,c4⟩:=qal HG.out
      go_wp2_with fail
      refine (CT.out _).mono ?_
      rintro ee V2 ⟨rfl,bk⟩;replace hb:=hb.trans (bk.mono (Nat.le_of_lt (qab HG.out)));replace HG:=hid (qaa bk (qab HG.out) HG.out);clear bk CT c0 c1 c2 c3 c4;obtain ⟨c0,c1,c2,c3,c4⟩:=qal HG.out
      go_wp2_with fail
      go_ret
      exact ⟨by rw [HV.out];rfl,by first | exact hb | (rw [HGG.out];exact hb)⟩
     ·have d2:decide (d≤e)=false:=decide_eq_false h2
      have HV:Hid (qbh ⟨sr,b,d,e,f⟩=false):=hid (by rw [HR.out];simp [d1,hn,hf,ht,d2])
      clear HR hn hf ht h1 h2;have HG:=hid (qag w (.cells #[.int .i64 sr,.string b,.int .i64 d,.int .i64 e,.string f] 28));have hb:=qah w (.cells #[.int .i64 sr,.string b,.int .i64 d,.int .i64 e,.string f] 28);obtain ⟨c0,c1,c2,c3,c4⟩:=qal HG.out
      go_enter Tryz.func33,Tryz.ntmps33
      go_wp2_with fail
      generalize (w.alloc _)=W0 at *;generalize hgg:w.heap.size=g at *;have HGG:=hid hgg;clear hgg
      refine (CN.out _).mono ?_
      rintro ee V0 ⟨rfl,bk⟩;replace hb:=hb.trans (bk.mono (Nat.le_of_lt (qab HG.out)));replace HG:=hid (qaa bk (qab HG.out) HG.out);clear bk CN c0 c1 c2 c3 c4;obtain ⟨c0,c1,c2,c3,c4⟩:=qal HG.out
      go_wp2_with fail
      refine (CF.out _).mono ?_
      rintro ee V1 ⟨rfl,bk⟩;replace hb:=hb.trans (bk.mono (Nat.le_of_lt (qab HG.out)));replace HG:=hid (qaa bk (qab HG.out) HG.out);clear bk CF c0 c1 c2 c3 c4;obtain ⟨c0,c1,c2,c3,c4⟩:=qal HG.out
      go_wp2_with fail
      refine (CT.out _).mono ?_
      rintro ee V2 ⟨rfl,bk⟩;replace hb:=hb.trans (bk.mono (Nat.le_of_lt (qab HG.out)));replace HG:=hid (qaa bk (qab HG.out) HG.out);clear bk CT c0 c1 c2 c3 c4;obtain ⟨c0,c1,c2,c3,c4⟩:=qal HG.out
      go_wp2_with fail
      go_ret
      exact ⟨by rw [HV.out];rfl,by first | exact hb | (rw [HGG.out];exact hb)⟩
    | false=>
     rw [ht] at CT
     have HV:Hid (qbh ⟨sr,b,d,e,f⟩=false):=hid (by rw [HR.out];simp [d1,hn,hf,ht])
     clear HR hn hf ht h1;have HG:=hid (qag w (.cells #[.int .i64 sr,.string b,.int .i64 d,.int .i64 e,.string f] 28));have hb:=qah w (.cells #[.int .i64 sr,.string b,.int .i64 d,.int .i64 e,.string f] 28);obtain ⟨c0,c1,c2,c3,c4⟩:=qal HG.out
     go_enter Tryz.func33,Tryz.ntmps33
     go_wp2_with fail
     generalize (w.alloc _)=W0 at *;generalize hgg:w.heap.size=g at *;have HGG:=hid hgg;clear hgg
     refine (CN.out _).mono ?_
     rintro ee V0 ⟨rfl,bk⟩;replace hb:=hb.trans (bk.mono (Nat.le_of_lt (qab HG.out)));replace HG:=hid (qaa bk (qab HG.out) HG.out);clear bk CN c0 c1 c2 c3 c4;obtain ⟨c0,c1,c2,c3,c4⟩:=qal HG.out
     go_wp2_with fail
     refine (CF.out _).mono ?_
     rintro ee V1 ⟨rfl,bk⟩;replace hb:=hb.trans (bk.mono (Nat.le_of_lt (qab HG.out)));replace HG:=hid (qaa bk (qab HG.out) HG.out);clear bk CF c0 c1 c2 c3 c4;obtain ⟨c0,c1,c2,c3,c4⟩:=qal HG.out
     go_wp2_with fail
     refine (CT.out _).mono ?_
     rintro ee V2 ⟨rfl,bk⟩;replace hb:=hb.trans (bk.mono (Nat.le_of_lt (qab HG.out)));replace HG:=hid (qaa bk (qab HG.out) HG.out);clear bk CT c0 c1 c2 c3 c4;obtain ⟨c0,c1,c2,c3,c4⟩:=qal HG.out
     go_wp2_with fail
     go_ret
     exact ⟨by rw [HV.out];rfl,by first | exact hb | (rw [HGG.out];exact hb)⟩
   | false=>
    rw [hf] at CF
    have HV:Hid (qbh ⟨sr,b,d,e,f⟩=false):=hid (by rw [HR.out];simp [d1,hn,hf])
    clear HR hn hf h1;have HG:=hid (qag w (.cells #[.int .i64 sr,.string b,.int .i64 d,.int .i64 e,.string f] 28));have hb:=qah w (.cells #[.int .i64 sr,.string b,.int .i64 d,.int .i64 e,.string f] 28);obtain ⟨c0,c1,c2,c3,c4⟩:=qal HG.out
    go_enter Tryz.func33,Tryz.ntmps33
    go_wp2_with fail
    generalize (w.alloc _)=W0 at *;generalize hgg:w.heap.size=g at *;have HGG:=hid hgg;clear hgg
    refine (CN.out _).mono ?_
    rintro ee V0 ⟨rfl,bk⟩;replace hb:=hb.trans (bk.mono (Nat.le_of_lt (qab HG.out)));replace HG:=hid (qaa bk (qab HG.out) HG.out);clear bk CN c0 c1 c2 c3 c4;obtain ⟨c0,c1,c2,c3,c4⟩:=qal HG.out
    go_wp2_with fail
    refine (CF.out _).mono ?_
    rintro ee V1 ⟨rfl,bk⟩;replace hb:=hb.trans (bk.mono (Nat.le_of_lt (qab HG.out)));replace HG:=hid (qaa bk (qab HG.out) HG.out);clear bk CF c0 c1 c2 c3 c4;obtain ⟨c0,c1,c2,c3,c4⟩:=qal HG.out
    go_wp2_with fail
    go_ret
    exact ⟨by rw [HV.out];rfl,by first | exact hb | (rw [HGG.out];exact hb)⟩
  | false=>
   rw [hn] at CN
   have HV:Hid (qbh ⟨sr,b,d,e,f⟩=false):=hid (by rw [HR.out];simp [d1,hn])
   clear HR hn h1;have HG:=hid (qag w (.cells #[.int .i64 sr,.string b,.int .i64 d,.int .i64 e,.string f] 28));have hb:=qah w (.cells #[.int .i64 sr,.string b,.int .i64 d,.int .i64 e,.string f] 28);obtain ⟨c0,c1,c2,c3,c4⟩:=qal HG.out
   go_enter Tryz.func33,Tryz.ntmps33
   go_wp2_with fail
   generalize (w.alloc _)=W0 at *;generalize hgg:w.heap.size=g at *;have HGG:=hid hgg;clear hgg
   refine (CN.out _).mono ?_
   rintro ee V0 ⟨rfl,bk⟩;replace hb:=hb.trans (bk.mono (Nat.le_of_lt (qab HG.out)));replace HG:=hid (qaa bk (qab HG.out) HG.out);clear bk CN c0 c1 c2 c3 c4;obtain ⟨c0,c1,c2,c3,c4⟩:=qal HG.out
   go_wp2_with fail
   go_ret
   exact ⟨by rw [HV.out];rfl,by first | exact hb | (rw [HGG.out];exact hb)⟩
 ·have d1:decide (1≤sr)=false:=decide_eq_false h1
  have HV:Hid (qbh ⟨sr,b,d,e,f⟩=false):=hid (by rw [HR.out];simp [d1])
  clear HR h1;have HG:=hid (qag w (.cells #[.int .i64 sr,.string b,.int .i64 d,.int .i64 e,.string f] 28));have hb:=qah w (.cells #[.int .i64 sr,.string b,.int .i64 d,.int .i64 e,.string f] 28);obtain ⟨c0,c1,c2,c3,c4⟩:=qal HG.out
  go_enter Tryz.func33,Tryz.ntmps33
  go_wp2_with fail
  generalize (w.alloc _)=W0 at *;generalize hgg:w.heap.size=g at *;have HGG:=hid hgg;clear hgg
  go_ret
  exact ⟨by rw [HV.out];rfl,by first | exact hb | (rw [HGG.out];exact hb)⟩
set_option maxHeartbeats 16000000 in
theorem rInner_any (sr:Int) (b:ByteArray) (d e:Int) (f:ByteArray) (w:World) (ha0:-9223372036854775808≤sr) (ha1:sr≤9223372036854775807) (hd0:-9223372036854775808≤d) (hd1:d≤9223372036854775807) (he0:-9223372036854775808≤e) (he1:e≤9223372036854775807) (hs:b.size≤1000000) (hf:f.size≤1000000) :
  Calls Tryz.prog 35 #[.agg #[.int .i64 sr,.string b,.int .i64 d,.int .i64 e,.string f]] w fun ee w'=>ee=.returned (.string (innB ⟨sr,b,d,e,f⟩))∧Below w.heap.size w w':=by
 have CA:=hid rAlg_any
 have CN:=hid (fun W=>rNamed_any b W (by omega))
 have CF:=hid (fun W=>rTime_any d W hd0 hd1)
 have CT:=hid (fun W=>rTime_any e W he0 he1)
 have CI:=hid (fun W=>rIntLoop_any sr W ha0 ha1)
 have C1:=hid (fun W=>qbH 24 (timX d) W (by decide) (by decide))
 have C2:=hid (fun W=>qbH 24 (timX e) W (by decide) (by decide))
 have C3:=hid (fun W=>qbH 48 (wrX 24 (timX d)++wrX 24 (timX e)) W (by decide) (by decide))
 have C4:=hid (fun W=>qbH 3 (qay++f) W (by decide) (by decide))
 have C5:=hid (fun W=>qbH 48 (algB++wrX 3 (qay++f)) W (by decide) (by decide))
 have C6:=hid (fun W=>qbH 48 (wrX 2 (intB sr)++algB++qaB b++valB ⟨sr,b,d,e,f⟩++qaB b++keyB ⟨sr,b,d,e,f⟩) W (by decide) (by decide))
 rw [show wrX 48 (wrX 24 (timX d)++wrX 24 (timX e))=valB ⟨sr,b,d,e,f⟩ from rfl] at C3
 rw [show wrX 48 (algB++wrX 3 (qay++f))=keyB ⟨sr,b,d,e,f⟩ from rfl] at C5
 rw [show wrX 48 (wrX 2 (intB sr)++algB++qaB b++valB ⟨sr,b,d,e,f⟩++qaB b++keyB ⟨sr,b,d,e,f⟩)=innB ⟨sr,b,d,e,f⟩ from rfl] at C6
 obtain ⟨s1,s2,s3,s4,s5,s6,s7⟩:=qc1 ⟨sr,b,d,e,f⟩;obtain ⟨n1,n2,n3,n4⟩:=qdy b;have t1:=qcV d;have t2:=qcV e;have w1:=qcj 24 (timX d);have w2:=qcj 24 (timX e);have w3:=qcj 2 (intB sr);have w4:=qfm sr;have w5:=qcj 3 (qay++f);have w6:=qcG f
 have ha7:algB.size=7:=by rw [qej];rfl
 simp only at s1 s2 s3 s4 s5 s6 s7
 have k1:(wrX 2 (intB sr)).size+algB.size≤9223372036854775807:=by omega
 have k2:(wrX 2 (intB sr)).size+algB.size+(qaB b).size≤9223372036854775807:=by omega
 have k3:(wrX 24 (timX d)).size+(wrX 24 (timX e)).size≤9223372036854775807:=by omega
 have k4:(wrX 2 (intB sr)).size+algB.size+(qaB b).size+(valB ⟨sr,b,d,e,f⟩).size≤9223372036854775807:=by omega
 have k5:(wrX 2 (intB sr)).size+algB.size+(qaB b).size+(valB ⟨sr,b,d,e,f⟩).size+(qaB b).size≤9223372036854775807:=by omega
 have k6:1+f.size≤9223372036854775807:=by omega
 have k7:algB.size+(wrX 3 (qay++f)).size≤9223372036854775807:=by omega
 have k8:(wrX 2 (intB sr)).size+algB.size+(qaB b).size+(valB ⟨sr,b,d,e,f⟩).size+(qaB b).size+(keyB ⟨sr,b,d,e,f⟩).size≤9223372036854775807:=by omega
 clear s1 s2 s3 s4 s5 s6 s7 n1 n2 n3 n4 t1 t2 w1 w2 w3 w4 w5 w6 ha7 ha0 ha1 hd0 hd1 he0 he1 hs hf;have HZ:Hid (qay=⟨#[0]⟩):=hid rfl
 rw [show qay=(⟨#[0]⟩:ByteArray) from rfl] at *
 generalize innB ⟨sr,b,d,e,f⟩=io at *;generalize keyB ⟨sr,b,d,e,f⟩=kb at *;generalize valB ⟨sr,b,d,e,f⟩=vb at *;generalize wrX 3 (⟨#[0]⟩++f)=xk at *;generalize wrX 24 (timX d)=wf at *;generalize wrX 24 (timX e)=wt at *;generalize timX d=tf at *;generalize timX e=tt at *;generalize timE d=qf at *;generalize timE e=qt at *;generalize wrX 2 (intB sr)=ib at *;generalize qaB b=nb at *;generalize algB=al at *;have HG:=hid (qag w (.cells #[.int .i64 sr,.string b,.int .i64 d,.int .i64 e,.string f] 28));have hb:=qah w (.cells #[.int .i64 sr,.string b,.int .i64 d,.int .i64 e,.string f] 28);obtain ⟨c0,c1,c2,c3,c4⟩:=qal HG.out
 go_enter Tryz.func35,Tryz.ntmps35
 go_wp2_with fail
 generalize (w.alloc _)=W0 at *;generalize hgg:w.heap.size=g at *;have HGG:=hid hgg;clear hgg
 refine (CA.out _).mono ?_
 rintro ee V0 ⟨rfl,bk⟩;replace hb:=hb.trans (bk.mono (Nat.le_of_lt (qab HG.out)));replace HG:=hid (qaa bk (qab HG.out) HG.out);clear bk CA c0 c1 c2 c3 c4;obtain ⟨c0,c1,c2,c3,c4⟩:=qal HG.out
 go_wp2_with fail
 refine (CN.out _).mono ?_
 rintro ee V1 ⟨rfl,bk⟩;replace hb:=hb.trans (bk.mono (Nat.le_of_lt (qab HG.out)));replace HG:=hid (qaa bk (qab HG.out) HG.out);clear bk CN c0 c1 c2 c3 c4;obtain ⟨c0,c1,c2,c3,c4⟩:=qal HG.out
 go_wp2_with fail
 refine (CF.out _).mono ?_
 rintro ee V2 ⟨rfl,bk⟩;replace hb:=hb.trans (bk.mono (Nat.le_of_lt (qab HG.out)));replace HG:=hid (qaa bk (qab HG.out) HG.out);clear bk CF c0 c1 c2 c3 c4;obtain ⟨c0,c1,c2,c3,c4⟩:=qal HG.out
 go_wp2_with fail
 refine (CT.out _).mono ?_
 rintro ee V3 ⟨rfl,bk⟩;replace hb:=hb.trans (bk.mono (Nat.le_of_lt (qab HG.out)));replace HG:=hid (qaa bk (qab HG.out) HG.out);clear bk CT c0 c1 c2 c3 c4;obtain ⟨c0,c1,c2,c3,c4⟩:=qal HG.out
 go_wp2_with fail
 refine qaC 25 50 [(Told.val (.pointer (some ⟨g,0,none⟩)),[1]),
   (Told.val (.int .i64 sr),[25]),
   (Told.val (.string (ib)),[26]),
   (Told.val (.string (al)),[3]),
   (Told.val (.string (ib++al)),[27,28]),
   (Told.val (.string (nb)),[4]),
   (Told.val (.string (ib++al++nb)),[29,30]),
   (Told.val (.string (tf)),[5]),
   (Told.val (.string (wf)),[32]),
   (Told.val (.string (tt)),[7]),
   (Told.val (.string (wt)),[34]),
   (Told.val (.string (wf++wt)),[33,35]),
   (Told.val (.string (vb)),[36]),
   (Told.val (.string (ib++al++nb++vb)),[31,37]),
   (Told.val (.string (nb)),[4]),
   (Told.val (.string (ib++al++nb++vb++nb)),[38,39]),
   (Told.val (.string (al)),[3]),
   (Told.val (.pointer (some ⟨g,4,none⟩)),[1]),
   (Told.val (.string (f)),[42]),
   (Told.val (.string (⟨#[0]⟩++f)),[43]),
   (Told.val (.string (xk)),[44]),
   (Told.val (.string (al++xk)),[41,45]),
   (Told.val (.string (kb)),[46]),
   (Told.val (.string (ib++al++nb++vb++nb++kb)),[40,47]),
   (Told.val (.string (io)),[48])]
  (by kernel_rfl) (by kernel_rfl) rfl ?_ ?_
 ·simp only [List.take_succ_cons,List.take_zero,qaW,and_true]
  refine And.intro ?_ (And.intro ?_ (And.intro ?_ (And.intro ?_ (And.intro ?_ (And.intro ?_ (And.intro ?_ (And.intro ?_ (And.intro ?_ (And.intro ?_ (And.intro ?_ (And.intro ?_ (And.intro ?_ (And.intro ?_ (And.intro ?_ (And.intro ?_ (And.intro ?_ (And.intro ?_ (And.intro ?_ (And.intro ?_ (And.intro ?_ (And.intro ?_ (And.intro ?_ (And.intro ?_ (?_))))))))))))))))))))))))
  ·intro a w hb h
   have e0:a.tmps.getD 1 undef=.pointer (some ⟨g,0,none⟩):=h 1 (by simp)
   simp only [getD_eq_getD_getElem?] at e0
   refine qaf ?_
   simp [go_sem,e0,qac]
  ·intro a w hb h
   have e0:a.tmps.getD 25 undef=.pointer (some ⟨g,0,none⟩):=h 25 (by simp)
   simp only [getD_eq_getD_getElem?] at e0
   have hc:=(hb.cell (block_lt_of_cell c0)).trans c0
   refine qaf ?_
   simp [go_sem,e0,qac,hc]
  ·intro a w hb h
   have e0:a.tmps.getD 26 undef=.int .i64 sr:=h 26 (by simp)
   simp only [getD_eq_getD_getElem?] at e0
   refine qaf ?_
   simp [go_sem,e0,qac]
   exact CI.out _
  ·intro a w hb h
   have e0:a.tmps.getD 3 undef=.string (al):=h 3 (by simp)
   simp only [getD_eq_getD_getElem?] at e0
   refine qaf ?_
   simp [go_sem,e0,qac]
  ·intro a w hb h
   have e0:a.tmps.getD 27 undef=.string (ib):=h 27 (by simp)
   have e1:a.tmps.getD 28 undef=.string (al):=h 28 (by simp)
   simp only [getD_eq_getD_getElem?] at e0 e1
   refine qaf ?_
   simp [go_sem,e0,e1,qac,Nat.not_lt.2 k1]
  ·intro a w hb h
   have e0:a.tmps.getD 4 undef=.string (nb):=h 4 (by simp)
   simp only [getD_eq_getD_getElem?] at e0
   refine qaf ?_
   simp [go_sem,e0,qac]
  ·intro a w hb h
   have e0:a.tmps.getD 29 undef=.string (ib++al):=h 29 (by simp)
   have e1:a.tmps.getD 30 undef=.string (nb):=h 30 (by simp)
   simp only [getD_eq_getD_getElem?] at e0 e1
   refine qaf ?_
   simp [go_sem,e0,e1,qac,Nat.not_lt.2 k2]
  ·intro a w hb h
   have e0:a.tmps.getD 5 undef=.string (tf):=h 5 (by simp)
   simp only [getD_eq_getD_getElem?] at e0
   refine qaf ?_
   simp [go_sem,e0,qac]
  ·intro a w hb h
   have e0:a.tmps.getD 32 undef=.string (tf):=h 32 (by simp)
   simp only [getD_eq_getD_getElem?] at e0
   refine qaf ?_
   simp [go_sem,e0,qac]
   exact C1.out _
  ·intro a w hb h
   have e0:a.tmps.getD 7 undef=.string (tt):=h 7 (by simp)
   simp only [getD_eq_getD_getElem?] at e0
   refine qaf ?_
   simp [go_sem,e0,qac]
  ·intro a w hb h
   have e0:a.tmps.getD 34 undef=.string (tt):=h 34 (by simp)
   simp only [getD_eq_getD_getElem?] at e0
   refine qaf ?_
   simp [go_sem,e0,qac]
   exact C2.out _
  ·intro a w hb h
   have e0:a.tmps.getD 33 undef=.string (wf):=h 33 (by simp)
   have e1:a.tmps.getD 35 undef=.string (wt):=h 35 (by simp)
   simp only [getD_eq_getD_getElem?] at e0 e1
   refine qaf ?_
   simp [go_sem,e0,e1,qac,Nat.not_lt.2 k3]
  ·intro a w hb h
   have e0:a.tmps.getD 36 undef=.string (wf++wt):=h 36 (by simp)
   simp only [getD_eq_getD_getElem?] at e0
   refine qaf ?_
   simp [go_sem,e0,qac]
   exact C3.out _
  ·intro a w hb h
   have e0:a.tmps.getD 31 undef=.string (ib++al++nb):=h 31 (by simp)
   have e1:a.tmps.getD 37 undef=.string (vb):=h 37 (by simp)
   simp only [getD_eq_getD_getElem?] at e0 e1
   refine qaf ?_
   simp [go_sem,e0,e1,qac,Nat.not_lt.2 k4]
  ·intro a w hb h
   have e0:a.tmps.getD 4 undef=.string (nb):=h 4 (by simp)
   simp only [getD_eq_getD_getElem?] at e0
   refine qaf ?_
   simp [go_sem,e0,qac]
  ·intro a w hb h
   have e0:a.tmps.getD 38 undef=.string (ib++al++nb++vb):=h 38 (by simp)
   have e1:a.tmps.getD 39 undef=.string (nb):=h 39 (by simp)
   simp only [getD_eq_getD_getElem?] at e0 e1
   refine qaf ?_
   simp [go_sem,e0,e1,qac,Nat.not_lt.2 k5]
  ·intro a w hb h
   have e0:a.tmps.getD 3 undef=.string (al):=h 3 (by simp)
   simp only [getD_eq_getD_getElem?] at e0
   refine qaf ?_
   simp [go_sem,e0,qac]
  ·intro a w hb h
   have e0:a.tmps.getD 1 undef=.pointer (some ⟨g,0,none⟩):=h 1 (by simp)
   simp only [getD_eq_getD_getElem?] at e0
   refine qaf ?_
   simp [go_sem,e0,qac]
  ·intro a w hb h
   have e0:a.tmps.getD 42 undef=.pointer (some ⟨g,4,none⟩):=h 42 (by simp)
   simp only [getD_eq_getD_getElem?] at e0
   have hc:=(hb.cell (block_lt_of_cell c4)).trans c4
   refine qaf ?_
   simp [go_sem,e0,qac,hc]
  ·intro a w hb h
   have e0:a.tmps.getD 43 undef=.string (f):=h 43 (by simp)
   simp only [getD_eq_getD_getElem?] at e0
   refine qaf ?_
   simp [go_sem,e0,qac,Nat.not_lt.2 k6]
  ·intro a w hb h
   have e0:a.tmps.getD 44 undef=.string (⟨#[0]⟩++f):=h 44 (by simp)
   simp only [getD_eq_getD_getElem?] at e0
   refine qaf ?_
   simp [go_sem,e0,qac]
   exact C4.out _
  ·intro a w hb h
   have e0:a.tmps.getD 41 undef=.string (al):=h 41 (by simp)
   have e1:a.tmps.getD 45 undef=.string (xk):=h 45 (by simp)
   simp only [getD_eq_getD_getElem?] at e0 e1
   refine qaf ?_
   simp [go_sem,e0,e1,qac,Nat.not_lt.2 k7]
  ·intro a w hb h
   have e0:a.tmps.getD 46 undef=.string (al++xk):=h 46 (by simp)
   simp only [getD_eq_getD_getElem?] at e0
   refine qaf ?_
   simp [go_sem,e0,qac]
   exact C5.out _
  ·intro a w hb h
   have e0:a.tmps.getD 40 undef=.string (ib++al++nb++vb++nb):=h 40 (by simp)
   have e1:a.tmps.getD 47 undef=.string (kb):=h 47 (by simp)
   simp only [getD_eq_getD_getElem?] at e0 e1
   refine qaf ?_
   simp [go_sem,e0,e1,qac,Nat.not_lt.2 k8]
  ·intro a w hb h
   have e0:a.tmps.getD 48 undef=.string (ib++al++nb++vb++nb++kb):=h 48 (by simp)
   simp only [getD_eq_getD_getElem?] at e0
   refine qaf ?_
   simp [go_sem,e0,qac]
   exact C6.out _
 simp only [List.take_succ_cons,List.take_zero,List.drop_succ_cons,List.drop_zero,qaX,Act.put,List.setIfInBounds_toArray,List.set_cons_succ,List.set_cons_zero]
 rintro X bk v25 q25 v26 q26 v27 q27 v28 q28 v29 q29 v30 q30 v31 q31 v32 q32 v33 q33 v34 q34 v35 q35 v36 q36 v37 q37 v38 q38 v39 q39 v40 q40 v41 q41 v42 q42 v43 q43 v44 q44 v45 q45 v46 q46 v47 q47 v48 q48 v49 q49;obtain rfl:=q25.symm;obtain rfl:=q26.symm;obtain rfl:=q27.symm;obtain rfl:=q28.symm;obtain rfl:=q29.symm;obtain rfl:=q30.symm;obtain rfl:=q31.symm;obtain rfl:=q32.symm;obtain rfl:=q33.symm;obtain rfl:=q34.symm;obtain rfl:=q35.symm;obtain rfl:=q36.symm;obtain rfl:=q37.symm;obtain rfl:=q38.symm;obtain rfl:=q39.symm;obtain rfl:=q40.symm;obtain rfl:=q41.symm;obtain rfl:=q42.symm;obtain rfl:=q43.symm;obtain rfl:=q44.symm;obtain rfl:=q45.symm;obtain rfl:=q46.symm;obtain rfl:=q47.symm;obtain rfl:=q48.symm;obtain rfl:=q49.symm;clear q25 q26 q27 q28 q29 q30 q31 q32 q33 q34 q35 q36 q37 q38 q39 q40 q41 q42 q43 q44 q45 q46 q47 q48 q49;replace hb:=hb.trans (bk.mono (Nat.le_of_lt (qab HG.out)));clear bk c0 c1 c2 c3 c4
 go_wp2_with fail
 go_ret
 exact ⟨rfl,by first | exact hb | (rw [HGG.out];exact hb)⟩
end
section
open Go.RowKit Go.Sort
def cRow (a:Int) (b:ByteArray) (d e:Int) (f:ByteArray):Array Value:=#[.int .i64 a,.string b,.int .i64 d,.int .i64 e,.string f]
theorem infoCert:(Tryz.prog.info? 28).map (fun i=>(i.zero,i.size))=some (some (.agg (cRow 0 ⟨#[]⟩ 0 0 ⟨#[]⟩)),5):=by kernel_rfl
theorem qaD (a:Int) (b:ByteArray) (d e:Int) (f:ByteArray):(Tryz.prog.info? 28).map (·.size)=some (cRow a b d e f).size:=by
 have h:=infoCert
 cases hq:Tryz.prog.info? 28 with
 | none=>rw [hq] at h;cases h
 | some i=>
  rw [hq] at h
  simp only [Option.map_some,Option.some.injEq,Prod.mk.injEq] at h ⊢
  rw [h.2];rfl
theorem qdc (a:Int) (b:ByteArray) (d e:Int) (f:ByteArray):(cRow a b d e f).all (·.oneCell')=true:=by simp [cRow,Value.oneCell']
theorem qbF {P:Program} {fn:Func} {p u:Tmp} {ty:TypeId} (h:fn.results=#[.cell p ty,.tmp u]) (tmps:Array Value) (w:World) (g:Nat) (t:TypeId) (cs:Array Value) (fr:Nat×Nat) (d:TypeDesc)
  (hp:tmps.getD p undef=.pointer (some ⟨g,0,none⟩)) (hg:w.heap[g]?=some (.cells cs t fr)) (hu:P.underlying ty=some d) (hd:(match d with | .struct _ | .array _ _=>true | _=>false)=true) (hi:(P.info? ty).map (·.size)=some cs.size) :
  (results fn tmps).run P w=.ok (.tuple #[.agg cs,tmps.getD u undef]) w:=by
 have e1:=run_loadVar_row w g t ty cs fr d hg hu hd hi
 simp only [results,h]
 simp at hp
 simp [Sem.run_bind,Result.andThen,hp,asAddr,e1]
theorem cell_set {W:World} {g i:Nat} {v:Value} {cs:Array Value} {t:TypeId} (h:W.heap[g]?=some (.cells cs t)):(W.setCell ⟨g,i,none⟩ v).heap[g]?=some (.cells (cs.setIfInBounds i v) t):=Go.heap_setCell_same _ _ _ _ _ _ h
end
section
open Go.RowKit Go.Sort
structure SignRM (F:SignF):Prop where
 pub:∀ (s:ByteArray) (w:World),Calls Tryz.prog 34 #[.string s] w fun e w'=>e=.returned (.tuple #[.string (F.pub s),.int .i64 (sdE s)])∧Below w.heap.size w w'
 sgn:∀ (s t:ByteArray) (w:World),t.size≤1000000→Calls Tryz.prog 36 #[.string s,.string t] w fun e w'=>e=.returned (.tuple #[.string (F.sgn s t),.int .i64 (sdE s)])∧Below w.heap.size w w'
set_option maxHeartbeats 16000000 in
theorem rMake_any (F:SignF) (R:SignRM F) (sr:Int) (b:ByteArray) (d e:Int) (f seed:ByteArray) (w:World) (ha0:-9223372036854775808≤sr) (ha1:sr≤9223372036854775807) (hd0:-9223372036854775808≤d) (hd1:d≤9223372036854775807) (he0:-9223372036854775808≤e) (he1:e≤9223372036854775807) (hs:b.size≤1000) (hf:f.size≤1000) :
  Calls Tryz.prog 15 #[.agg #[.int .i64 sr,.string b,.int .i64 d,.int .i64 e,.string f],.string seed] w fun ee w'=>ee=.returned (.tuple #[.string (makX F ⟨sr,b,d,e,f⟩ seed),.int .i64 (makE F ⟨sr,b,d,e,f⟩ seed)])∧Below w.heap.size w w':=by
 have CR:=hid (fun W=>rRight_any sr b d e f W (by omega))
 have CP:=hid (fun W=>R.pub seed W)
 have HG:=hid (show (w.alloc (.cells #[.int .i64 sr,.string b,.int .i64 d,.int .i64 e,.string f] 28)).heap[w.heap.size]?=some (.cells (cRow sr b d e f) 28) from qag w _)
 have hb:=qah w (.cells #[.int .i64 sr,.string b,.int .i64 d,.int .i64 e,.string f] 28)
 cases hr:qbh ⟨sr,b,d,e,f⟩ with
 | false=>
  rw [hr] at CR
  have HV:=hid (qeV F ⟨sr,b,d,e,f⟩ seed 1 (by rw [makE,hr,if_neg Bool.false_ne_true]) (by decide))
  clear hr ha0 ha1 hd0 hd1 he0 he1 hs hf R CP
  go_enter Tryz.func15,Tryz.ntmps15
  go_wp2_with (with_reducible refine wpList_load_row rfl 28 _ rfl w.heap.size rfl 28 _ (0,0) _ HG.out Tryz.underlying28 rfl (qaD _ _ _ _ _) ?_)
  generalize (w.alloc _)=W0 at *;generalize hBB:w.heap.size=g at *;have HBB:=hid hBB;clear hBB
  refine (CR.out _).mono ?_
  rintro ee V1 ⟨rfl,bk⟩;replace hb:=hb.trans (bk.mono (Nat.le_of_lt (qab HG.out)));replace HG:=hid (qaa bk (qab HG.out) HG.out);clear bk CR
  go_wp2_with fail
  go_ret2
  exact ⟨by rw [HV.out.1,HV.out.2];rfl,by rw [HBB.out];exact hb⟩
 | true=>
  rw [hr] at CR
  by_cases h32:seed.size=32
  ·have hsd:sdE seed=0:=if_pos h32
   rw [hsd] at CP
   by_cases hk:f.size=0∨f=F.pub seed
   ·have HV0:=mak_good F ⟨sr,b,d,e,f⟩ seed (by rw [makE,hr,if_pos rfl,if_pos];rw [keyOk,decide_eq_true h32,Bool.true_and];simpa using hk)
    have hp:=F.hp seed h32;have hg:=F.hg seed (innB (qbv ⟨sr,b,d,e,f⟩ (F.pub seed))) h32;have hin:=(qc1 (qbv ⟨sr,b,d,e,f⟩ (F.pub seed))).2.2.2.2.2.2
    have hin2:(innB (qbv ⟨sr,b,d,e,f⟩ (F.pub seed))).size≤10000:=by
     have e1:(qbv ⟨sr,b,d,e,f⟩ (F.pub seed)).nm=b:=rfl;have e2:(qbv ⟨sr,b,d,e,f⟩ (F.pub seed)).key=F.pub seed:=rfl;rw [e1,e2] at hin
     omega
    have CI:=hid (fun W=>rInner_any sr b d e (F.pub seed) W ha0 ha1 hd0 hd1 he0 he1 (by omega) (by omega))
    have CS:=hid (fun W=>R.sgn seed (innB (qbv ⟨sr,b,d,e,f⟩ (F.pub seed))) W (by omega))
    have CW:=hid (fun W=>rWhole_any (innB (qbv ⟨sr,b,d,e,f⟩ (F.pub seed))) (F.sgn seed (innB (qbv ⟨sr,b,d,e,f⟩ (F.pub seed)))) W (by omega) (by omega))
    rw [show (⟨sr,b,d,e,F.pub seed⟩:CertF)=qbv ⟨sr,b,d,e,f⟩ (F.pub seed) from rfl] at CI
    have HV:=hid HV0;have se:=qdm f;have sq:=str_eq f (F.pub seed)
    have q1:(f.toList.isEmpty=true∧(f.toList==[])=true)∨(f.toList.isEmpty=false∧(f.toList==[])=false∧(f.toList==(F.pub seed).toList)=true):=by
     rcases Nat.eq_zero_or_pos f.size with h0 | h0
     ·left;rw [se.1,se.2,decide_eq_true h0];exact ⟨rfl,rfl⟩
     ·right
      rcases hk with hk | hk
      ·omega
      ·rw [se.1,se.2,sq,decide_eq_false (by omega),decide_eq_true hk];exact ⟨rfl,rfl,rfl⟩
    clear hr ha0 ha1 hd0 hd1 he0 he1 hs hf R hp hg hin hin2 hsd h32 hk se sq HV0;generalize whoB (innB (qbv ⟨sr,b,d,e,f⟩ (F.pub seed))) (F.sgn seed (innB (qbv ⟨sr,b,d,e,f⟩ (F.pub seed))))=wh at *;generalize F.sgn seed (innB (qbv ⟨sr,b,d,e,f⟩ (F.pub seed)))=sg at *;generalize innB (qbv ⟨sr,b,d,e,f⟩ (F.pub seed))=inn at *;generalize F.pub seed=pk at *
    rcases q1 with ⟨qa,qb⟩ | ⟨qa,qb,qc⟩
    ·go_enter Tryz.func15,Tryz.ntmps15
     go_wp2_with (with_reducible refine wpList_load_row rfl 28 _ rfl w.heap.size rfl 28 _ (0,0) _ HG.out Tryz.underlying28 rfl (qaD _ _ _ _ _) ?_)
     generalize (w.alloc _)=W0 at *;generalize hBB:w.heap.size=g at *;have HBB:=hid hBB;clear hBB
     refine (CR.out _).mono ?_
     rintro ee V1 ⟨rfl,bk⟩;replace hb:=hb.trans (bk.mono (Nat.le_of_lt (qab HG.out)));replace HG:=hid (qaa bk (qab HG.out) HG.out);clear bk CR
     go_wp2_with fail
     refine (CP.out _).mono ?_
     rintro ee V2 ⟨rfl,bk⟩;replace hb:=hb.trans (bk.mono (Nat.le_of_lt (qab HG.out)));replace HG:=hid (qaa bk (qab HG.out) HG.out);clear bk CP;obtain ⟨c0,c1,c2,c3,c4⟩:=qal HG.out;have fc:=frozen_of_row V2 g 4 _ _ HG.out;have HG2:=hid (cell_set (i:=4) (v:=.string pk) HG.out)
     rw [show (cRow sr b d e f).setIfInBounds 4 (.string pk)=cRow sr b d e pk from rfl] at HG2
     have hb2:Below g w (V2.setCell ⟨g,4,none⟩ (.string pk)):=hb.setCell (by simp) _
     clear HG c0 c1 c2 c3;have HG:=HG2;clear HG2
     go_wp2_with (with_reducible refine wpList_load_row rfl 28 _ rfl g rfl 28 _ (0,0) _ HG.out Tryz.underlying28 rfl (qaD _ _ _ _ _) ?_)
     clear c4 fc hb;generalize (World.setCell _ _ _)=V3 at *;have hb:=hb2;clear hb2
     refine (CI.out _).mono ?_
     rintro ee V4 ⟨rfl,bk⟩;replace hb:=hb.trans (bk.mono (Nat.le_of_lt (qab HG.out)));replace HG:=hid (qaa bk (qab HG.out) HG.out);clear bk CI
     go_wp2_with fail
     refine (CS.out _).mono ?_
     rintro ee V5 ⟨rfl,bk⟩;replace hb:=hb.trans (bk.mono (Nat.le_of_lt (qab HG.out)));replace HG:=hid (qaa bk (qab HG.out) HG.out);clear bk CS
     go_wp2_with fail
     refine (CW.out _).mono ?_
     rintro ee V6 ⟨rfl,bk⟩;replace hb:=hb.trans (bk.mono (Nat.le_of_lt (qab HG.out)));replace HG:=hid (qaa bk (qab HG.out) HG.out);clear bk CW
     go_wp2_with fail
     go_ret2
     exact ⟨by rw [HV.out.1,HV.out.2];rfl,by rw [HBB.out];exact hb⟩
    ·go_enter Tryz.func15,Tryz.ntmps15
     go_wp2_with (with_reducible refine wpList_load_row rfl 28 _ rfl w.heap.size rfl 28 _ (0,0) _ HG.out Tryz.underlying28 rfl (qaD _ _ _ _ _) ?_)
     generalize (w.alloc _)=W0 at *;generalize hBB:w.heap.size=g at *;have HBB:=hid hBB;clear hBB
     refine (CR.out _).mono ?_
     rintro ee V1 ⟨rfl,bk⟩;replace hb:=hb.trans (bk.mono (Nat.le_of_lt (qab HG.out)));replace HG:=hid (qaa bk (qab HG.out) HG.out);clear bk CR
     go_wp2_with fail
     refine (CP.out _).mono ?_
     rintro ee V2 ⟨rfl,bk⟩;replace hb:=hb.trans (bk.mono (Nat.le_of_lt (qab HG.out)));replace HG:=hid (qaa bk (qab HG.out) HG.out);clear bk CP;obtain ⟨c0,c1,c2,c3,c4⟩:=qal HG.out;have fc:=frozen_of_row V2 g 4 _ _ HG.out;have HG2:=hid (cell_set (i:=4) (v:=.string pk) HG.out)
     rw [show (cRow sr b d e f).setIfInBounds 4 (.string pk)=cRow sr b d e pk from rfl] at HG2
     have hb2:Below g w (V2.setCell ⟨g,4,none⟩ (.string pk)):=hb.setCell (by simp) _
     clear HG c0 c1 c2 c3;have HG:=HG2;clear HG2
     go_wp2_with (with_reducible refine wpList_load_row rfl 28 _ rfl g rfl 28 _ (0,0) _ HG.out Tryz.underlying28 rfl (qaD _ _ _ _ _) ?_)
     clear c4 fc hb;generalize (World.setCell _ _ _)=V3 at *;have hb:=hb2;clear hb2
     refine (CI.out _).mono ?_
     rintro ee V4 ⟨rfl,bk⟩;replace hb:=hb.trans (bk.mono (Nat.le_of_lt (qab HG.out)));replace HG:=hid (qaa bk (qab HG.out) HG.out);clear bk CI
     go_wp2_with fail
     refine (CS.out _).mono ?_
     rintro ee V5 ⟨rfl,bk⟩;replace hb:=hb.trans (bk.mono (Nat.le_of_lt (qab HG.out)));replace HG:=hid (qaa bk (qab HG.out) HG.out);clear bk CS
     go_wp2_with fail
     refine (CW.out _).mono ?_
     rintro ee V6 ⟨rfl,bk⟩;replace hb:=hb.trans (bk.mono (Nat.le_of_lt (qab HG.out)));replace HG:=hid (qaa bk (qab HG.out) HG.out);clear bk CW
     go_wp2_with fail
     go_ret2
     exact ⟨by rw [HV.out.1,HV.out.2];rfl,by rw [HBB.out];exact hb⟩
   ·have HV:=hid (qeV F ⟨sr,b,d,e,f⟩ seed 21 (by rw [makE,hr,if_pos rfl,if_neg];rw [keyOk,decide_eq_true h32,Bool.true_and];simpa using hk) (by decide))
    have qa:f.toList.isEmpty=false:=by rw [(qdm f).1];exact decide_eq_false (fun h=>hk (.inl h))
    have qb:(f.toList==[])=false:=by rw [(qdm f).2];exact decide_eq_false (fun h=>hk (.inl h))
    have qc:(f.toList==(F.pub seed).toList)=false:=by rw [str_eq];exact decide_eq_false (fun h=>hk (.inr h))
    clear hr ha0 ha1 hd0 hd1 he0 he1 hs hf R hsd h32 hk;generalize F.pub seed=pk at *
    go_enter Tryz.func15,Tryz.ntmps15
    go_wp2_with (with_reducible refine wpList_load_row rfl 28 _ rfl w.heap.size rfl 28 _ (0,0) _ HG.out Tryz.underlying28 rfl (qaD _ _ _ _ _) ?_)
    generalize (w.alloc _)=W0 at *;generalize hBB:w.heap.size=g at *;have HBB:=hid hBB;clear hBB
    refine (CR.out _).mono ?_
    rintro ee V1 ⟨rfl,bk⟩;replace hb:=hb.trans (bk.mono (Nat.le_of_lt (qab HG.out)));replace HG:=hid (qaa bk (qab HG.out) HG.out);clear bk CR
    go_wp2_with fail
    refine (CP.out _).mono ?_
    rintro ee V2 ⟨rfl,bk⟩;replace hb:=hb.trans (bk.mono (Nat.le_of_lt (qab HG.out)));replace HG:=hid (qaa bk (qab HG.out) HG.out);clear bk CP;obtain ⟨c0,c1,c2,c3,c4⟩:=qal HG.out
    go_wp2_with fail
    go_ret2
    exact ⟨by rw [HV.out.1,HV.out.2];rfl,by rw [HBB.out];exact hb⟩
  ·have hsd:sdE seed=21:=if_neg h32
   rw [hsd] at CP
   have HV:=hid (qeV F ⟨sr,b,d,e,f⟩ seed 21 (by rw [makE,hr,if_pos rfl,if_neg];rw [keyOk,decide_eq_false h32,Bool.false_and];exact Bool.false_ne_true) (by decide))
   clear hr ha0 ha1 hd0 hd1 he0 he1 hs hf R hsd h32;generalize F.pub seed=pk at *
   go_enter Tryz.func15,Tryz.ntmps15
   go_wp2_with (with_reducible refine wpList_load_row rfl 28 _ rfl w.heap.size rfl 28 _ (0,0) _ HG.out Tryz.underlying28 rfl (qaD _ _ _ _ _) ?_)
   generalize (w.alloc _)=W0 at *;generalize hBB:w.heap.size=g at *;have HBB:=hid hBB;clear hBB
   refine (CR.out _).mono ?_
   rintro ee V1 ⟨rfl,bk⟩;replace hb:=hb.trans (bk.mono (Nat.le_of_lt (qab HG.out)));replace HG:=hid (qaa bk (qab HG.out) HG.out);clear bk CR
   go_wp2_with fail
   refine (CP.out _).mono ?_
   rintro ee V2 ⟨rfl,bk⟩;replace hb:=hb.trans (bk.mono (Nat.le_of_lt (qab HG.out)));replace HG:=hid (qaa bk (qab HG.out) HG.out);clear bk CP
   go_wp2_with fail
   go_ret2
   exact ⟨by rw [HV.out.1,HV.out.2];rfl,by rw [HBB.out];exact hb⟩
end
section
open Go.RowKit Go.Sort
theorem cer_none:cerL noC=cRow 0 ⟨#[]⟩ 0 0 ⟨#[]⟩:=rfl
end
section
open Go.RowKit Go.Sort
end
end Go.Proofs.YteomfleofeeofaaGreatDoor
