/- The program's scalar and salt of a seed, the base so many times, the number of a text's digest. -/
import Derived.Test.YteomfleofeeofaaGreatDoorSgSpec
import Derived.Test.YteomfleofeeofaaGreatDoorSgLaid
import Derived.Test.YteomfleofeeofaaGreatDoorPpP
namespace Go.Proofs.YteomfleofeeofaaGreatDoor
open Go.Lib (hid)
open _root_.Array (getD_eq_getD_getElem?)
set_option maxRecDepth 100000
set_option linter.unusedSimpArgs false
set_option linter.unusedVariables false
open Go.RowKit Go.Sort
theorem clamp12_take (l:List UInt8) (h:32≤l.length):(qbJ l).take 32=qbJ (l.take 32):=by
 have e:∀ i,i<32→(l.take 32).getD i 0=l.getD i 0:=fun i hi=>by
  rw [List.getD_eq_getElem?_getD,List.getD_eq_getElem?_getD,List.getElem?_take,if_pos hi]
 rw [qbJ,qbJ,List.take_set,List.take_set,e 0 (by omega),e 31 (by omega)]
theorem clamp12_drop (l:List UInt8):(qbJ l).drop 32=l.drop 32:=by
 rw [qbJ,List.drop_set,if_pos (by omega),List.drop_set,if_pos (by omega)]
theorem qfS {w:World} {base g cap n off:Nat} {L l:List UInt8} (h:OwnS w base g cap (Lib.byteCells L)) (hl:l.length=n) (hp:∀ j,j<n→L[off+j]?=l[j]?) (c:Nat) :
  (convert 41 9 (.slice (some ⟨g,off,none⟩) n c)).run Tryz.prog w=.ok (.string ⟨l.toArray⟩) w:=
 qdk w g off c n l hl fun j x hx=>by
  have hj:j<n:=by rw [← hl];exact (List.getElem?_eq_some_iff.1 hx).1
  exact h.cells (off+j) _ (by simp [Lib.byteCells,hp j hj,hx])
theorem sum_digT (s:ByteArray) (w:World) (hs:s.size≤1099511627776) (hT:SgnQ w) :
  Calls Tryz.prog 94 #[.string s] w fun e w'=>e=.returned (.string (digT s))∧Below w.heap.size w w':=sum512_any kf hf s w hT.1 hT.2.1 hs
theorem without7 (x:UInt8):bits .andNot .u8 (x.toNat:Int) 7=((x &&& 248).toNat:Int):=by
 show IntKind.u8.wrap ((BitVec.ofInt 8 (x.toNat:Int) &&& ~~~BitVec.ofInt 8 7).toNat:Nat)=_
 have hx:BitVec.ofInt 8 (x.toNat:Int)=x.toBitVec:=by apply BitVec.eq_of_toNat_eq;simp
 rw [hx];have h:=(x &&& 248).toNat_lt;have e:(x.toBitVec &&& ~~~BitVec.ofInt 8 7).toNat=(x &&& 248).toNat:=rfl;rw [e,IntKind.wrap_u8]
 omega
set_option maxHeartbeats 4000000 in
theorem pparts_any (s:ByteArray) (w:World) (hs:s.size≤1099511627776) (hT:SgnQ w) :
  Calls Tryz.prog 45 #[.string s] w fun e w'=>e=.returned (.tuple #[.string (sclT s),.string (qbR s)])∧Below w.heap.size w w':=by
 have CD:=hid (fun W hW=>sum_digT s W hs hW)
 have HD:=qfu s
 have hll:(digT s).data.toList.length=64:=by rw [← Lib.size_eq];exact HD
 have HSC:Hid (sclT s=⟨((qbJ (digT s).data.toList).take 32).toArray⟩):=hid (by
  rw [clamp12_take _ (by rw [hll];omega)]
  rfl)
 have HSA:Hid (qbR s=⟨((qbJ (digT s).data.toList).drop 32).toArray⟩):=hid (by
  apply ByteArray.ext
  apply Array.toList_inj.1
  rw [qbR,Lib.extract_data,clamp12_drop]
  exact List.take_of_length_le (by rw [List.length_drop,hll];omega))
 generalize sclT s=sc at *;generalize qbR s=sa at *;generalize digT s=h at *;have hb:=Below.refl w.heap.size w;have HP:=hid hT;clear hT
 go_enter Tryz.func45,Tryz.ntmps45
 go_wp2_with fail
 refine (CD.out w HP.out).mono ?_
 rintro e W1 ⟨rfl,bk⟩;replace hb:=hb.trans (bk.mono hb.size);replace HP:=hid (HP.out.step bk);clear bk;obtain ⟨cap,hcv,hown,hbo⟩:=qdU h W1
 have hcp:64≤cap:=by have:=hown.le;rw [Lib.byteCells_length,hll] at this;exact this
 rw [HD] at hcv;clear HD;have hbx:=hb.trans (hbo.mono hb.size);have hg1:w.heap.size≤W1.heap.size:=hb.size;clear hb HP;generalize Lib.bytesWorld _ _ _=V1 at *;generalize W1.heap.size=g at *;generalize h.data.toList=l at *
 have e31:∀ x,(l.set 0 x).getD 31 0=l.getD 31 0:=fun x=>by rw [List.getD_eq_getElem?_getD,List.getElem?_set_ne (by decide),List.getD_eq_getElem?_getD]
 obtain ⟨c0,f0⟩:=qca hown 0 (by omega)
 have hown1:=qbX hown 0 (by omega) (l.getD 0 0 &&& 248)
 obtain ⟨c31,f31⟩:=qca hown1 31 (by rw [List.length_set];omega)
 have hown2:=qbX hown1 31 (by rw [List.length_set];omega) (l.getD 31 0 &&& 127 ||| 64)
 rw [e31] at c31
 rw [show (l.set 0 (l.getD 0 0 &&& 248)).set 31 (l.getD 31 0 &&& 127 ||| 64)=qbJ l from rfl] at hown2
 have a0:=without7 (l.getD 0 0);have a1:=without_top (l.getD 31 0);have a2:=byte_ior (l.getD 31 0 &&& 127) 64
 rw [show (((64:UInt8).toNat:Nat):Int)=64 from rfl] at a2
 have hb2:=(hbx.setCell (p:=⟨g,0,none⟩) hg1 (.int .u8 ((l.getD 0 0 &&& 248).toNat:Int))).setCell (p:=⟨g,31,none⟩) hg1 (.int .u8 ((l.getD 31 0 &&& 127 ||| 64).toNat:Int))
 have hkl:(qbJ l).length=64:=by rw [qet];exact hll
 have HO:=hid hown2;have HKL:=hid hkl;clear hown hown1 hown2 hbx hbo e31 hkl hll;generalize qbJ l=cl at *;generalize (l.getD 0 0 &&& 248).toNat=v0 at *
 generalize (l.getD 31 0 &&& 127 ||| 64).toNat=v1 at *
 generalize (l.getD 31 0 &&& 127).toNat=v2 at *;generalize (l.getD 31 0).toNat=v3 at *;generalize (l.getD 0 0).toNat=v4 at *
 have hp0:(0:Int)<(64:Int):=by omega
 have hp31:(31:Int)<(64:Int):=by omega
 go_wp2_with fail
 clear c0 f0 c31 f31 a0 a1 a2 hcv;generalize (World.setCell (World.setCell _ _ _) _ _)=V2 at *
 have h32:(32:Int)≤(cap:Int):=by omega
 have h64:(64:Int)≤(cap:Int):=by omega
 have hne:¬ cap=32:=by omega
 refine qam 7 26 [.val (.slice (some ⟨g,0,none⟩) 64 cap) [(4,.slice (some ⟨g,0,none⟩) 64 cap)],.val (.slice (some ⟨g,0,none⟩) 32 cap) [(20,.slice (some ⟨g,0,none⟩) 64 cap)],.val (.string sc) [(21,.slice (some ⟨g,0,none⟩) 32 cap)],.val (.slice (some ⟨g,0,none⟩) 64 cap) [(4,.slice (some ⟨g,0,none⟩) 64 cap)],.val (.slice (some ⟨g,32,none⟩) 32 (cap-32)) [(23,.slice (some ⟨g,0,none⟩) 64 cap)],.val (.string sa) [(24,.slice (some ⟨g,32,none⟩) 32 (cap-32))],.val (.string sc) [(22,.string sc)]] (by kernel_rfl) (by kernel_rfl) rfl ?_ ?_ ?_
 ·simp only [List.take_succ_cons,List.take_zero,qaL,qaK,HeadSpec.val,HeadSpec.fresh,and_true]
  refine ⟨?_,?_,?_,?_,?_,?_,?_⟩
  ·intro act w hb h'
   have e0:=h' (4,.slice (some ⟨g,0,none⟩) 64 cap) (by simp)
   simp only [getD_eq_getD_getElem?] at e0
   simp [go_sem,e0,qac]
  ·intro act w hb h'
   have e0:=h' (20,.slice (some ⟨g,0,none⟩) 64 cap) (by simp)
   simp only [getD_eq_getD_getElem?] at e0
   simp [go_sem,e0,qac,h32,h64,hne]
  ·intro act w hb h'
   have e0:=h' (21,.slice (some ⟨g,0,none⟩) 32 cap) (by simp)
   simp only [getD_eq_getD_getElem?] at e0
   have ht:=qfS (off:=0) (l:=(cl.take 32)) (n:=32) (HO.out.stays hb) (by simp [HKL.out]) (fun j hj=>by rw [Nat.zero_add,List.getElem?_take,if_pos hj]) cap
   rw [← HSC.out] at ht
   simp [go_sem,e0,qac,ht]
  ·intro act w hb h'
   have e0:=h' (4,.slice (some ⟨g,0,none⟩) 64 cap) (by simp)
   simp only [getD_eq_getD_getElem?] at e0
   simp [go_sem,e0,qac]
  ·intro act w hb h'
   have e0:=h' (23,.slice (some ⟨g,0,none⟩) 64 cap) (by simp)
   simp only [getD_eq_getD_getElem?] at e0
   simp [go_sem,e0,qac,h32,h64,hne]
  ·intro act w hb h'
   have e0:=h' (24,.slice (some ⟨g,32,none⟩) 32 (cap-32)) (by simp)
   simp only [getD_eq_getD_getElem?] at e0
   have ht:=qfS (off:=32) (l:=(cl.drop 32)) (n:=32) (HO.out.stays hb) (by simp [HKL.out]) (fun j hj=>by rw [List.getElem?_drop]) (cap-32)
   rw [← HSA.out] at ht
   simp [go_sem,e0,qac,ht]
  ·intro act w hb h'
   have e0:=h' (22,.string sc) (by simp)
   simp only [getD_eq_getD_getElem?] at e0
   simp [go_sem,e0,qac]
 ·simp [qau,qav,qaJ,HeadSpec.val,HeadSpec.fresh,Act.put]
 ·simp only [List.take_succ_cons,List.take_zero,List.drop_succ_cons,List.drop_zero,qaH,HeadSpec.val,HeadSpec.fresh,Act.put,List.setIfInBounds_toArray,List.set_cons_succ,List.set_cons_zero]
  intro X hx _
  go_wp2_with fail
  go_ret2
  exact ⟨rfl,hb2.trans (hx.mono hb2.size)⟩
set_option maxHeartbeats 4000000 in
theorem ptimes_any (n:ByteArray) (w:World) (hT:SgnQ w) :
  Calls Tryz.prog 46 #[.string n] w fun e w'=>e=.returned (.agg (uc (ptL (qb8 baseP n))))∧Below w.heap.size w w':=by
 have CB:=hid (fun W (hW:SgnQ W)=>ptBase_any W hW.2.2.1)
 have CM:=hid (fun W (hW:SgnQ W)=>ptMulT_any baseP n W baseP_ok hW.2.2.1)
 generalize qb8 baseP n=m at *;generalize mulET n=q at *;generalize baseP=bp at *;obtain ⟨hzp,hip⟩:=zero_of_info qcp;have HR:=hid (qag w (.cells zrow4 63));have hb:=qah w (.cells zrow4 63);have HP:=hid (hT.step hb);clear hip hT
 go_enter Tryz.func46,Tryz.ntmps46
 go_wp2_with fail
 generalize (w.alloc _)=W0 at *;have hB:=hid hb.size;generalize hBB:w.heap.size=B at *;have HBB:=hid hBB;clear hBB
 refine (CB.out W0 HP.out).mono ?_
 rintro e W1 ⟨rfl,bk⟩;replace hb:=hb.trans (bk.mono hB.out);replace HP:=hid (HP.out.step bk);replace HR:=hid (qaa bk (qab HR.out) HR.out);clear bk hB
 go_wp2_with fail
 refine (CM.out W1 HP.out).mono ?_
 rintro e W2 ⟨rfl,bk⟩;replace hb:=hb.trans (bk.mono (Nat.le_of_lt (qab HR.out)));replace HR:=hid (qaa bk (qab HR.out) HR.out);clear bk HP CB CM;have HN:=hid (qag W2 (.cells zrow4 63));have hr:=qab HR.out;have q1:=hid (setRow_heap _ W2.heap.size _ (uc (ptL m)) _ _ HN.out)
 have HR2:Hid (((W2.alloc (.cells zrow4 63)).setRow W2.heap.size (uc (ptL m))).heap[B]?=some (.cells zrow4 63)):=hid (by rw [setRow_other _ _ _ _ (by omega)];exact qaj HR.out)
 have hb4:Below B w ((W2.alloc (.cells zrow4 63)).setRow W2.heap.size (uc (ptL m))):=below_setRow (hb.alloc (by omega) _) (by omega) _
 clear HR hb
 go_wp2_with (first
  | (with_reducible refine wpList_store_row rfl 63 _ _ rfl W2.heap.size (uc (ptL m)) rfl rfl 63 _ HN.out (qbj _ (qaz _)) (qa3 _ (qaz _)) (qar _) ?_)
  | (with_reducible refine wpList_load_row rfl 63 _ rfl W2.heap.size rfl 63 _ (0,0) _ q1.out Tryz.underlying63 rfl (qbj _ (qaz _)) ?_)
  | (with_reducible refine wpList_store_row rfl 63 _ _ rfl B (uc (ptL m)) rfl rfl 63 _ HR2.out (qbj _ (qaz _)) (qa3 _ (qaz _)) (qar _) ?_))
 exact bodyPost_ret (v:=.agg (uc (ptL m))) (results_cell_row (by rfl) _ _ B 63 _ (0,0) _ rfl (setRow_heap _ _ _ _ _ _ HR2.out) Tryz.underlying63 rfl (qbj _ (qaz _))) rfl ⟨rfl,by rw [HBB.out];exact below_setRow hb4 (Nat.le_refl _) _⟩
set_option maxHeartbeats 2000000 in
theorem pwide_any (s:ByteArray) (w:World) (hs:s.size≤1099511627776) (hT:SgnQ w) :
  Calls Tryz.prog 56 #[.string s] w fun e w'=>e=.returned (.string (wdT s))∧Below w.heap.size w w':=by
 have CD:=hid (fun W hW=>sum_digT s W hs hW)
 have CW:=hid (fun W (hW:SgnQ W)=>wide_any (digT s) W hW.2.2.2)
 rw [show qc5 (digT s)=wdT s from rfl] at CW
 generalize wdT s=x at *;generalize digT s=d at *;generalize qdA d=q at *;have hb:=Below.refl w.heap.size w;have HP:=hid hT;clear hT
 go_enter Tryz.func56,Tryz.ntmps56
 go_wp2_with fail
 refine (CD.out w HP.out).mono ?_
 rintro e W1 ⟨rfl,bk⟩;replace hb:=hb.trans (bk.mono hb.size);replace HP:=hid (HP.out.step bk);clear bk
 go_wp2_with fail
 refine (CW.out W1 HP.out).mono ?_
 rintro e W2 ⟨rfl,bk⟩;replace hb:=hb.trans (bk.mono hb.size);replace HP:=hid (HP.out.step bk);clear bk
 go_wp2_with fail
 go_ret
 exact ⟨rfl,hb⟩
end Go.Proofs.YteomfleofeeofaaGreatDoor
