/- The program's Public and Sign. -/
import Derived.Test.YteomfleofeeofaaGreatDoorSgPar
namespace Go.Proofs.YteomfleofeeofaaGreatDoor
open Go.Lib (hid)
set_option maxRecDepth 100000
set_option linter.unusedSimpArgs false
set_option linter.unusedVariables false
open Go.RowKit Go.Sort
set_option maxHeartbeats 2000000 in
theorem qfM (s:ByteArray) (w:World) (hT:SgnQ w) :
  Calls Tryz.prog 22 #[.string s] w fun e w'=>e=.returned (.tuple #[.string (pubX s),.int .i64 (qdh s)])∧Below w.heap.size w w':=by
 have hb:=Below.refl w.heap.size w;have HP:=hid hT;clear hT
 by_cases h:s.size=32
 ·have d1:((s.size:Int) != 32)=false:=by simp;omega
  rw [pubX,qdh,if_pos h,if_pos h]
  have CP:=hid (fun W hW=>pparts_any s W (by omega) hW)
  have CT:=hid (fun W hW=>ptimes_any (sclT s) W hW)
  have CY:=hid (fun W (hW:SgnQ W)=>ptBytes_any (qb8 baseP (sclT s)) W (mulPT_ok _ _) hW.2.2.1)
  rw [show txtP (qb8 baseP (sclT s))=pubT s from rfl] at CY
  generalize pubT s=pb at *;generalize qb8 baseP (sclT s)=m at *;generalize sclT s=sc at *;generalize qbR s=sa at *;clear h
  go_enter Tryz.func22,Tryz.ntmps22
  go_wp2_with fail
  refine (CP.out w HP.out).mono ?_
  rintro e W1 ⟨rfl,bk⟩;replace hb:=hb.trans (bk.mono hb.size);replace HP:=hid (HP.out.step bk);clear bk
  go_wp2_with fail
  refine (CT.out W1 HP.out).mono ?_
  rintro e W2 ⟨rfl,bk⟩;replace hb:=hb.trans (bk.mono hb.size);replace HP:=hid (HP.out.step bk);clear bk
  go_wp2_with fail
  refine (CY.out W2 HP.out).mono ?_
  rintro e W3 ⟨rfl,bk⟩;replace hb:=hb.trans (bk.mono hb.size);replace HP:=hid (HP.out.step bk);clear bk
  go_wp2_with fail
  go_ret2
  exact ⟨rfl,hb⟩
 ·have d1:((s.size:Int) != 32)=true:=by simp;omega
  rw [pubX,qdh,if_neg h,if_neg h]
  go_enter Tryz.func22,Tryz.ntmps22
  go_wp2_with fail
  go_ret2
  exact ⟨rfl,hb⟩
theorem psign_sizes (s t:ByteArray) (ht:t.size≤1000000):(qbR s++t).size≤1099511627776∧(timT (rT s t)++pubT s++t).size≤1099511627776:=by
 rw [ByteArray.size_append,ByteArray.size_append,ByteArray.size_append,qf7,qfv,qfw]
 omega
set_option maxHeartbeats 4000000 in
theorem psign_any (s t:ByteArray) (w:World) (ht:t.size≤1000000) (hT:SgnQ w) :
  Calls Tryz.prog 31 #[.string s,.string t] w fun e w'=>e=.returned (.tuple #[.string (sgnX s t),.int .i64 (qdh s)])∧Below w.heap.size w w':=by
 have hb:=Below.refl w.heap.size w;have HP:=hid hT;clear hT
 by_cases h:s.size=32
 ·have d1:((s.size:Int) != 32)=false:=by simp;omega
  rw [sgnX,qdh,if_pos h,if_pos h];obtain ⟨z1,z2⟩:=psign_sizes s t ht;obtain ⟨k1,k2,k3,k4⟩:=sgn_cats s t ht
  have CU:=hid (fun W hW=>qfM s W hW)
  rw [show pubX s=pubT s from if_pos h,show qdh s=0 from if_pos h] at CU
  have CP:=hid (fun W hW=>pparts_any s W (by omega) hW)
  have CW1:=hid (fun W hW=>pwide_any (qbR s++t) W z1 hW)
  have CT1:=hid (fun W hW=>ptimes_any (rT s t) W hW)
  have CY1:=hid (fun W (hW:SgnQ W)=>ptBytes_any (qb8 baseP (rT s t)) W (mulPT_ok _ _) hW.2.2.1)
  have CW2:=hid (fun W hW=>pwide_any (timT (rT s t)++pubT s++t) W z2 hW)
  have CM:=hid (fun W (hW:SgnQ W)=>mulAdd_any (kT (timT (rT s t)) (pubT s) t) (sclT s) (rT s t) W hW.2.2.2)
  rw [show wdT (qbR s++t)=rT s t from rfl] at CW1
  rw [show wdT (timT (rT s t)++pubT s++t)=kT (timT (rT s t)) (pubT s) t from rfl] at CW2
  rw [show txtP (qb8 baseP (rT s t))=timT (rT s t) from rfl] at CY1
  have HS:Hid (sgnT s t=timT (rT s t)++maX (kT (timT (rT s t)) (pubT s) t) (sclT s) (rT s t)):=hid rfl;generalize sgnT s t=sg at *;generalize maX (kT (timT (rT s t)) (pubT s) t) (sclT s) (rT s t)=ma at *;generalize maE (kT (timT (rT s t)) (pubT s) t) (sclT s) (rT s t)=me at *;generalize kT (timT (rT s t)) (pubT s) t=kk at *;generalize timT (rT s t)=tr at *;generalize qb8 baseP (rT s t)=m1 at *;generalize rT s t=r at *;generalize pubT s=pb at *;generalize sclT s=sc at *;generalize qbR s=sa at *;clear h z1 z2 ht
  go_enter Tryz.func31,Tryz.ntmps31
  go_wp2_with fail
  refine (CU.out w HP.out).mono ?_
  rintro e W1 ⟨rfl,bk⟩;replace hb:=hb.trans (bk.mono hb.size);replace HP:=hid (HP.out.step bk);clear bk
  go_wp2_with fail
  refine (CP.out W1 HP.out).mono ?_
  rintro e W2 ⟨rfl,bk⟩;replace hb:=hb.trans (bk.mono hb.size);replace HP:=hid (HP.out.step bk);clear bk
  go_wp2_with fail
  refine (CW1.out W2 HP.out).mono ?_
  rintro e W3 ⟨rfl,bk⟩;replace hb:=hb.trans (bk.mono hb.size);replace HP:=hid (HP.out.step bk);clear bk
  go_wp2_with fail
  refine (CT1.out W3 HP.out).mono ?_
  rintro e W4 ⟨rfl,bk⟩;replace hb:=hb.trans (bk.mono hb.size);replace HP:=hid (HP.out.step bk);clear bk
  go_wp2_with fail
  refine (CY1.out W4 HP.out).mono ?_
  rintro e W5 ⟨rfl,bk⟩;replace hb:=hb.trans (bk.mono hb.size);replace HP:=hid (HP.out.step bk);clear bk
  go_wp2_with fail
  refine (CW2.out W5 HP.out).mono ?_
  rintro e W6 ⟨rfl,bk⟩;replace hb:=hb.trans (bk.mono hb.size);replace HP:=hid (HP.out.step bk);clear bk
  go_wp2_with fail
  refine (CM.out W6 HP.out).mono ?_
  rintro e W7 ⟨rfl,bk⟩;replace hb:=hb.trans (bk.mono hb.size);replace HP:=hid (HP.out.step bk);clear bk
  go_wp2_with fail
  go_ret2
  exact ⟨by rw [HS.out];rfl,hb⟩
 ·have CU:=hid (fun W hW=>qfM s W hW)
  rw [show pubX s=⟨#[]⟩ from if_neg h,show qdh s=21 from if_neg h] at CU
  rw [sgnX,qdh,if_neg h,if_neg h]
  go_enter Tryz.func31,Tryz.ntmps31
  go_wp2_with fail
  refine (CU.out w HP.out).mono ?_
  rintro e W1 ⟨rfl,bk⟩;replace hb:=hb.trans (bk.mono hb.size);clear bk
  go_wp2_with fail
  go_ret2
  exact ⟨rfl,hb⟩
end Go.Proofs.YteomfleofeeofaaGreatDoor
