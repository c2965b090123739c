/- The reference's scalar and salt of a seed, the base so many times, the public key, a signature. -/
import Derived.Test.YteomfleofeeofaaGreatDoorSgSpec
import Derived.Test.YteomfleofeeofaaGreatDoorShaR
import Derived.Test.YteomfleofeeofaaGreatDoorScaR
import Derived.Test.YteomfleofeeofaaGreatDoorPrR
namespace Go.Proofs.YteomfleofeeofaaGreatDoor
open Go.Lib (hid)
open _root_.Array (getD_eq_getD_getElem?)
set_option maxRecDepth 100000
set_option linter.unusedSimpArgs false
set_option linter.unusedVariables false
open Go.RowKit Go.Sort
set_option maxHeartbeats 2000000 in
theorem qga (n:ByteArray) (w:World) :
  Calls Tryz.prog 60 #[.string n] w fun e w'=>e=.returned (.string (timT n))∧Below w.heap.size w w':=by
 have CB:=hid rbase_any
 have CM:=hid (fun v W h=>rmulT_any v baseP n W baseP_ok h)
 have CY:=hid (fun v W h=>rbytesT_any v (qb8 baseP n) W (mulPT_ok _ _) h)
 rw [show txtP (qb8 baseP n)=timT n from rfl] at CY
 generalize timT n=tn at *;generalize qb8 baseP n=m at *;generalize mulET n=q at *;generalize baseP=bp at *;have hzR:=(zero_of_info infoR).1;have hb:=Below.refl w.heap.size w
 go_enter Tryz.func60,Tryz.ntmps60
 go_wp2_with fail
 refine (CB.out w).mono ?_
 rintro e W1 ⟨⟨vb,rfl,hvb⟩,bk⟩;replace hb:=hb.trans (bk.mono hb.size);clear bk;have Hvb:=hid hvb;clear hvb
 go_wp2_with fail
 refine (CM.out vb W1 Hvb.out).mono ?_
 rintro e W2 ⟨⟨vm,rfl,hvm⟩,bk⟩;replace hb:=hb.trans (bk.mono hb.size);replace Hvb:=hid (Hvb.out.step bk);clear bk;have Hvm:=hid hvm;clear hvm;clear Hvb;obtain ⟨ma,mb,mc,md,rfl⟩:=Hvm.out.four;have HN:=hid (qag W2 (.cells zeroR 82));have bn:=qah W2 (.cells zeroR 82);have Sm:=hid (qc6 ma mb mc md);have Om:=hid (qbS ma mb mc md);have Im:=hid Hvm.out.one;have Bm:=hid (setRow_heap _ W2.heap.size _ #[ma,mb,mc,md] _ _ HN.out);have bk:=below_setRow bn (Nat.le_refl _) #[ma,mb,mc,md]
 go_wp2_with (first | (with_reducible refine wpList_store_row rfl 82 _ _ rfl W2.heap.size #[ma,mb,mc,md] rfl rfl 82 _ HN.out Sm.out Om.out Im.out ?_) | (with_reducible refine wpList_load_row rfl 82 _ rfl W2.heap.size rfl 82 _ (0,0) _ Bm.out Tryz.underlying82 rfl Sm.out ?_))
 replace hb:=hb.trans (bk.mono hb.size);replace Hvm:=hid (Hvm.out.step bk);clear bk;generalize (World.setRow (World.alloc _ _) _ _)=V3 at *;generalize W2.heap.size=g1 at *;clear bn HN
 try simp only [Act.put]
 refine (CY.out _ V3 Hvm.out).mono ?_
 rintro e W4 ⟨rfl,bk⟩;replace hb:=hb.trans (bk.mono hb.size);replace Hvm:=hid (Hvm.out.step bk);replace Bm:=hid (qaa bk (qab Bm.out) Bm.out);clear bk
 go_wp2_with fail
 go_ret
 exact ⟨rfl,hb⟩
set_option maxHeartbeats 4000000 in
theorem rparts_any (s:ByteArray) (w:World) (hs:s.size≤1048576) :
  Calls Tryz.prog 59 #[.string s] w fun e w'=>e=.returned (.tuple #[.string (sclT s),.string (qbR s)])∧Below w.heap.size w w':=by
 have CD:=hid (fun W=>qfh s W hs)
 rw [show (⟨(qck kf hf s.data.toList).toArray⟩:ByteArray)=digT s from rfl] at CD
 have HD:=qfu s
 have hft:((digT s).extract 0 32).data.toList=(qck kf hf s.data.toList).take 32:=by
  rw [Lib.extract_data];rfl
 have hfs:((digT s).extract 0 32).size=32:=by rw [ByteArray.size_extract,HD];rfl
 have HSC:Hid (sclT s=⟨(qbJ ((digT s).extract 0 32).data.toList).toArray⟩):=hid (by rw [hft];rfl)
 have HSA:Hid (qbR s=(digT s).extract 32 (digT s).size):=hid (by rw [HD];rfl)
 have hll:((digT s).extract 0 32).data.toList.length=32:=by rw [← Lib.size_eq];exact hfs
 generalize sclT s=sc at *;generalize qbR s=sa at *;generalize digT s=h at *
 have h64:(32:Int)≤(h.size:Int):=by omega
 have h0:(0:Int)≤(32:Int):=by omega
 have hb:=Below.refl w.heap.size w
 go_enter Tryz.func59,Tryz.ntmps59
 go_wp2_with fail
 refine (CD.out w).mono ?_
 rintro e W1 ⟨rfl,bk⟩;replace hb:=hb.trans (bk.mono hb.size);clear bk;obtain ⟨cap,hcv,hown,hbo⟩:=qdU (h.extract 0 32) W1;rw [hfs] at hcv;have hbx:=hb.trans (hbo.mono hb.size);have hg1:w.heap.size≤W1.heap.size:=hb.size;clear hb;generalize Lib.bytesWorld _ _ _=V1 at *;generalize W1.heap.size=g at *;generalize ((h.extract 0 32).data.toList)=l at *
 have e31:∀ x,(l.set 0 x).getD 31 0=l.getD 31 0:=fun x=>by rw [List.getD_eq_getElem?_getD,List.getElem?_set_ne (by decide),List.getD_eq_getElem?_getD]
 obtain ⟨c0,f0⟩:=qca hown 0 (by omega)
 have hown1:=qbX hown 0 (by omega) (l.getD 0 0 &&& 248)
 obtain ⟨c31,f31⟩:=qca hown1 31 (by rw [List.length_set];omega)
 have hown2:=qbX hown1 31 (by rw [List.length_set];omega) (l.getD 31 0 &&& 127 ||| 64)
 rw [e31] at c31
 rw [show (l.set 0 (l.getD 0 0 &&& 248)).set 31 (l.getD 31 0 &&& 127 ||| 64)=qbJ l from rfl] at hown2
 have a0:=byte_and (l.getD 0 0) 248;have a1:=byte_and (l.getD 31 0) 127;have a2:=byte_ior (l.getD 31 0 &&& 127) 64
 rw [show (((248:UInt8).toNat:Nat):Int)=248 from rfl] at a0
 rw [show (((127:UInt8).toNat:Nat):Int)=127 from rfl] at a1
 rw [show (((64:UInt8).toNat:Nat):Int)=64 from rfl] at a2
 have hb2:=(hbx.setCell (p:=⟨g,0,none⟩) hg1 (.int .u8 ((l.getD 0 0 &&& 248).toNat:Int))).setCell (p:=⟨g,31,none⟩) hg1 (.int .u8 ((l.getD 31 0 &&& 127 ||| 64).toNat:Int))
 have hkl:(qbJ l).length=32:=by rw [qet];exact hll
 have HO:=hid hown2;have HKL:=hid hkl;clear hown hown1 hown2 hbx hbo e31 hkl hll;generalize qbJ l=cl at *;generalize (l.getD 0 0 &&& 248).toNat=v0 at *
 generalize (l.getD 31 0 &&& 127 ||| 64).toNat=v1 at *
 generalize (l.getD 31 0 &&& 127).toNat=v2 at *;generalize (l.getD 31 0).toNat=v3 at *;generalize (l.getD 0 0).toNat=v4 at *
 have hp0:(0:Int)<(32:Int):=by omega
 have hp31:(31:Int)<(32:Int):=by omega
 go_wp2_with fail
 clear c0 f0 c31 f31 a0 a1 a2 hcv;generalize (World.setCell (World.setCell _ _ _) _ _)=V2 at *
 refine qam 5 28 [.val (.slice (some ⟨g,0,none⟩) 32 cap) [(5,.slice (some ⟨g,0,none⟩) 32 cap)],.val (.string sc) [(24,.slice (some ⟨g,0,none⟩) 32 cap)],.val (.string h) [(4,.string h)],.val (.string sa) [(26,.string h)],.val (.string sc) [(25,.string sc)]] (by kernel_rfl) (by kernel_rfl) rfl ?_ ?_ ?_
 ·simp only [List.take_succ_cons,List.take_zero,qaL,qaK,HeadSpec.val,HeadSpec.fresh,and_true]
  refine ⟨?_,?_,?_,?_,?_⟩
  ·intro act w hb h'
   have e0:=h' (5,.slice (some ⟨g,0,none⟩) 32 cap) (by simp)
   simp only [getD_eq_getD_getElem?] at e0
   simp [go_sem,e0,qac]
  ·intro act w hb h'
   have e0:=h' (24,.slice (some ⟨g,0,none⟩) 32 cap) (by simp)
   simp only [getD_eq_getD_getElem?] at e0
   have ht:=qcm (HO.out.stays hb) HKL.out cap;rw [← HSC.out] at ht
   simp [go_sem,e0,qac,ht]
  ·intro act w hb h'
   have e0:=h' (4,.string h) (by simp)
   simp only [getD_eq_getD_getElem?] at e0
   simp [go_sem,e0,qac]
  ·intro act w hb h'
   have e0:=h' (26,.string h) (by simp)
   simp only [getD_eq_getD_getElem?] at e0
   have hx:=HSA.out
   simp [go_sem,e0,qac,h64,← hx]
  ·intro act w hb h'
   have e0:=h' (25,.string sc) (by simp)
   simp only [getD_eq_getD_getElem?] at e0
   simp [go_sem,e0,qac]
 ·simp [qau,qav,qaJ,HeadSpec.val,HeadSpec.fresh,Act.put]
 ·simp only [List.take_succ_cons,List.take_zero,List.drop_succ_cons,List.drop_zero,qaH,HeadSpec.val,HeadSpec.fresh,Act.put,List.setIfInBounds_toArray,List.set_cons_succ,List.set_cons_zero]
  intro X hx _
  go_wp2_with fail
  go_ret2
  exact ⟨rfl,hb2.trans (hx.mono hb2.size)⟩
set_option maxHeartbeats 2000000 in
theorem rpublic_any (s:ByteArray) (w:World) :
  Calls Tryz.prog 34 #[.string s] w fun e w'=>e=.returned (.tuple #[.string (pubX s),.int .i64 (qdh s)])∧Below w.heap.size w w':=by
 have hb:=Below.refl w.heap.size w
 by_cases h:s.size=32
 ·have d1:((s.size:Int) != 32)=false:=by simp;omega
  rw [pubX,qdh,if_pos h,if_pos h]
  have CP:=hid (fun W=>rparts_any s W (by omega))
  have CT:=hid (fun W=>qga (sclT s) W)
  rw [show timT (sclT s)=pubT s from rfl] at CT
  generalize pubT s=pb at *;generalize sclT s=sc at *;generalize qbR s=sa at *;clear h
  go_enter Tryz.func34,Tryz.ntmps34
  go_wp2_with fail
  refine (CP.out w).mono ?_
  rintro e W1 ⟨rfl,bk⟩;replace hb:=hb.trans (bk.mono hb.size);clear bk
  go_wp2_with fail
  refine (CT.out W1).mono ?_
  rintro e W2 ⟨rfl,bk⟩;replace hb:=hb.trans (bk.mono hb.size);clear bk
  go_wp2_with fail
  go_ret2
  exact ⟨rfl,hb⟩
 ·have d1:((s.size:Int) != 32)=true:=by simp;omega
  rw [pubX,qdh,if_neg h,if_neg h]
  go_enter Tryz.func34,Tryz.ntmps34
  go_wp2_with fail
  go_ret2
  exact ⟨rfl,hb⟩
theorem sign_sizes (s t:ByteArray) (ht:t.size≤1000000):(qbR s++t).size≤1048576∧(timT (rT s t)++pubT s++t).size≤1048576:=by
 rw [ByteArray.size_append,ByteArray.size_append,ByteArray.size_append,qf7,qfv,qfw]
 omega
set_option maxHeartbeats 4000000 in
theorem rsign_any (s t:ByteArray) (w:World) (ht:t.size≤1000000) :
  Calls Tryz.prog 36 #[.string s,.string t] w fun e w'=>e=.returned (.tuple #[.string (sgnX s t),.int .i64 (qdh s)])∧Below w.heap.size w w':=by
 have hb:=Below.refl w.heap.size w
 by_cases h:s.size=32
 ·have d1:((s.size:Int) != 32)=false:=by simp;omega
  rw [sgnX,qdh,if_pos h,if_pos h];obtain ⟨z1,z2⟩:=sign_sizes s t ht;obtain ⟨k1,k2,k3,k4⟩:=sgn_cats s t ht
  have CP:=hid (fun W=>rparts_any s W (by omega))
  have CD1:=hid (fun W=>qfh (qbR s++t) W z1)
  have CW1:=hid (fun W=>rwide_any (digT (qbR s++t)) W)
  have CT1:=hid (fun W=>qga (rT s t) W)
  have CT2:=hid (fun W=>qga (sclT s) W)
  have CD2:=hid (fun W=>qfh (timT (rT s t)++pubT s++t) W z2)
  have CW2:=hid (fun W=>rwide_any (digT (timT (rT s t)++pubT s++t)) W)
  have CM:=hid (fun W=>rmulAdd_any (kT (timT (rT s t)) (pubT s) t) (sclT s) (rT s t) W)
  rw [show (⟨(qck kf hf (qbR s++t).data.toList).toArray⟩:ByteArray)=digT (qbR s++t) from rfl] at CD1
  rw [show (⟨(qck kf hf (timT (rT s t)++pubT s++t).data.toList).toArray⟩:ByteArray)=digT (timT (rT s t)++pubT s++t) from rfl] at CD2
  rw [show qc5 (digT (qbR s++t))=rT s t from rfl] at CW1
  rw [show qc5 (digT (timT (rT s t)++pubT s++t))=kT (timT (rT s t)) (pubT s) t from rfl] at CW2
  rw [show timT (sclT s)=pubT s from rfl] at CT2
  have HS:Hid (sgnT s t=timT (rT s t)++maX (kT (timT (rT s t)) (pubT s) t) (sclT s) (rT s t)):=hid rfl;generalize sgnT s t=sg at *;generalize maX (kT (timT (rT s t)) (pubT s) t) (sclT s) (rT s t)=ma at *;generalize maE (kT (timT (rT s t)) (pubT s) t) (sclT s) (rT s t)=me at *;generalize kT (timT (rT s t)) (pubT s) t=kk at *;generalize digT (qbR s++t)=d1' at *;generalize digT (timT (rT s t)++pubT s++t)=d2' at *;generalize timT (rT s t)=tr at *;generalize rT s t=r at *;generalize pubT s=pb at *;generalize sclT s=sc at *;generalize qbR s=sa at *;generalize qdA d1'=we1 at *;generalize qdA d2'=we2 at *;clear h z1 z2 ht
  go_enter Tryz.func36,Tryz.ntmps36
  go_wp2_with fail
  refine (CP.out w).mono ?_
  rintro e W1 ⟨rfl,bk⟩;replace hb:=hb.trans (bk.mono hb.size);clear bk
  go_wp2_with fail
  refine (CD1.out W1).mono ?_
  rintro e W2 ⟨rfl,bk⟩;replace hb:=hb.trans (bk.mono hb.size);clear bk
  go_wp2_with fail
  refine (CW1.out W2).mono ?_
  rintro e W3 ⟨rfl,bk⟩;replace hb:=hb.trans (bk.mono hb.size);clear bk
  go_wp2_with fail
  refine (CT1.out W3).mono ?_
  rintro e W4 ⟨rfl,bk⟩;replace hb:=hb.trans (bk.mono hb.size);clear bk
  go_wp2_with fail
  refine (CT2.out W4).mono ?_
  rintro e W5 ⟨rfl,bk⟩;replace hb:=hb.trans (bk.mono hb.size);clear bk
  go_wp2_with fail
  refine (CD2.out W5).mono ?_
  rintro e W6 ⟨rfl,bk⟩;replace hb:=hb.trans (bk.mono hb.size);clear bk
  go_wp2_with fail
  refine (CW2.out W6).mono ?_
  rintro e W7 ⟨rfl,bk⟩;replace hb:=hb.trans (bk.mono hb.size);clear bk
  go_wp2_with fail
  refine (CM.out W7).mono ?_
  rintro e W8 ⟨rfl,bk⟩;replace hb:=hb.trans (bk.mono hb.size);clear bk
  go_wp2_with fail
  go_ret2
  exact ⟨by rw [HS.out];rfl,hb⟩
 ·have d1:((s.size:Int) != 32)=true:=by simp;omega
  rw [sgnX,qdh,if_neg h,if_neg h]
  go_enter Tryz.func36,Tryz.ntmps36
  go_wp2_with fail
  go_ret2
  exact ⟨rfl,hb⟩
end Go.Proofs.YteomfleofeeofaaGreatDoor
