/- Package cert: how a certificate is laid out: element, oid, algorithm, bits, named, certificate, innerPart; Package cert: what lies where in bytes: find, fields; Package cert: fields; Package cert: whether fields are right: isName, isRight; Package cert: Print, Make, over whatever the program's signatures are; Package cert: Read, over whatever the program's signatures are; Package cert: Allow, over whatever the program's signatures are; slices.Contains of texts. -/
import Derived.Test.YteomfleofeeofaaGreatDoorCpA
import Derived.Test.YteomfleofeeofaaGreatDoorToldG
import Derived.Test.YteomfleofeeofaaGreatDoorCtR
namespace Go.Proofs.YteomfleofeeofaaGreatDoor
open Go.Lib (hid)
open _root_.List (take_succ_cons)
open _root_.Array (getD_eq_getD_getElem?)
set_option maxRecDepth 100000
set_option linter.unusedSimpArgs false
set_option linter.unusedVariables false
section
open Go.RowKit Go.Sort
def sRow (xs:List ByteArray):Array Value:=(xs.map Value.string).toArray
theorem row_strs {W:World} {g:Nat} {xs:List ByteArray} {t:TypeId} (h:W.heap[g]?=some (.cells (sRow xs) t)):∀ (j:Nat) x,xs[j]?=some x→W.cell? ⟨g,0+j,none⟩=some (.string x):=fun j x hx=>by
 rw [Nat.zero_add,cell_of_row W g j _ t (0,0) h,sRow]
 simp [hx]
theorem row_ints {W:World} {g:Nat} {zs:List Int} {t:TypeId} (h:W.heap[g]?=some (.cells (iCells zs).toArray t)):IntsAt W (some ⟨g,0,none⟩) zs:=fun j hj=>⟨g,0,rfl,by
 rw [Nat.zero_add,cell_of_row W g j _ t (0,0) h,List.getElem?_toArray,iCells,List.getElem?_map,List.getElem?_eq_getElem hj,Option.map_some,List.getD_eq_getElem?_getD,List.getElem?_eq_getElem hj,Option.getD_some]⟩
def tRow (cs:Array Value) (n:Nat) (t:TypeId):Told:=⟨fun w v=>∃ g,v=.slice (some ⟨g,0,none⟩) n n∧w.heap[g]?=some (.cells cs t),fun w w' v hb ⟨g,e,hc⟩=>⟨g,e,qaa hb (qab hc) hc⟩⟩
set_option maxHeartbeats 2000000 in
theorem qb4 (tag:Int) (g n:Nat) (xs:List ByteArray) (w:World) (h0:-9223372036854775808≤tag) (h1:tag≤9223372036854775807) (hn:xs.length=n) (hm:n≤100) (hs:(catB xs).size≤1000000) (t:TypeId) (hg:w.heap[g]?=some (.cells (sRow xs) t)) :
  Calls Tryz.prog 51 #[.int .i64 tag,.slice (some ⟨g,0,none⟩) n n] w fun e w'=>e=.returned (.string (wrX tag (catB xs)))∧Below w.heap.size w w':=by
 have CJ:=hid (Tryz.strings_Join g 0 n xs ⟨#[]⟩ w (row_strs hg) (qab hg) (by omega) (by omega) (by
  have e:=catB_join xs;have e2:=congrArg ByteArray.size e;have e3:(⟨(Lib.join (xs.map (·.data.toList)) []).toArray⟩:ByteArray).size=(Lib.join (xs.map (·.data.toList)) []).length:=List.size_toArray
  show (Lib.join (xs.map (·.data.toList)) []).length≤_
  omega))
 rw [show (⟨(Lib.join (xs.map (·.data.toList)) (⟨#[]⟩:ByteArray).data.toList).toArray⟩:ByteArray)=catB xs from catB_join xs,hn] at CJ
 have CW:=hid (fun W=>write_any tag (catB xs) W h0 h1 (by omega))
 have hb:=Below.refl w.heap.size w;generalize wrX tag (catB xs)=R at *;generalize wrE tag (catB xs)=E at *;generalize catB xs=T at *;clear hs hg hn hm h0 h1
 go_enter Tryz.func51,Tryz.ntmps51
 go_wp2_with fail
 refine CJ.out.mono ?_
 rintro ee W1 ⟨rfl,bk⟩;replace hb:=hb.trans (bk.mono hb.size);clear bk CJ
 go_wp2_with fail
 refine (CW.out _).mono ?_
 rintro ee W2 ⟨rfl,bk⟩;replace hb:=hb.trans (bk.mono hb.size);clear bk CW
 go_wp2_with fail
 go_ret
 exact ⟨rfl,hb⟩
theorem poid_any (g n:Nat) (zs:List Int) (w:World) (hn:zs.length=n) (hm:n≤1000) (hz:∀ k,-9223372036854775808≤zs.getD k 0∧zs.getD k 0≤9223372036854775807) (t:TypeId) (hg:w.heap[g]?=some (.cells (iCells zs).toArray t)) :
  Calls Tryz.prog 106 #[.slice (some ⟨g,0,none⟩) n n] w fun e w'=>e=.returned (.string (oidX zs))∧Below w.heap.size w w':=by
 have CO:=hid (oid_any (some ⟨g,0,none⟩) n n zs w hn (by omega) (Nat.le_refl _) hz (row_ints hg))
 have hb:=Below.refl w.heap.size w;generalize oidX zs=R at *;generalize qbC zs=E at *;clear hg hn hm hz
 go_enter Tryz.func106,Tryz.ntmps106
 go_wp2_with fail
 refine CO.out.mono ?_
 rintro ee W1 ⟨rfl,bk⟩;replace hb:=hb.trans (bk.mono hb.size);clear bk CO
 go_wp2_with fail
 go_ret
 exact ⟨rfl,hb⟩
theorem fours (a b c d:Int) (ha:0≤a∧a≤1000) (hb:0≤b∧b≤1000) (hc:0≤c∧c≤1000) (hd:0≤d∧d≤1000) (k:Nat):-9223372036854775808≤[a,b,c,d].getD k 0∧[a,b,c,d].getD k 0≤9223372036854775807:=by
 match k with
 | 0 | 1 | 2 | 3=>simp;omega
 | k+4=>simp
theorem palg_any (w:World):Calls Tryz.prog 52 #[] w fun e w'=>e=.returned (.string algB)∧Below w.heap.size w w':=by
 have CO:=hid (poid_any w.heap.size 4 [1,3,101,112] (w.alloc (.cells #[.int .i64 1,.int .i64 3,.int .i64 101,.int .i64 112] 3)) rfl (by decide) (fours 1 3 101 112 (by decide) (by decide) (by decide) (by decide)) _ (qag w _))
 have hb:=qah w (.cells #[.int .i64 1,.int .i64 3,.int .i64 101,.int .i64 112] 3)
 have CE:=hid (fun W=>qb4 48 W.heap.size 1 [oidX [1,3,101,112]] (W.alloc (.cells #[.string (oidX [1,3,101,112])] 9)) (by decide) (by decide) rfl (by decide) (by decide) _ (qag W _))
 rw [qbZ,show wrX 48 (oidX [1,3,101,112])=algB from rfl] at CE
 generalize algB=R at *;generalize oidX [1,3,101,112]=X at *
 go_enter Tryz.func52,Tryz.ntmps52
 go_wp2_with fail
 generalize (w.alloc _)=W0 at *
 refine CO.out.mono ?_
 rintro ee W1 ⟨rfl,bk⟩;replace hb:=hb.trans (bk.mono hb.size);clear bk CO
 go_wp2_with fail
 refine (CE.out W1).mono ?_
 rintro ee W2 ⟨rfl,bk⟩;replace hb:=hb.trans (((qah W1 _).trans (bk.mono (qah W1 _).size)).mono hb.size);clear bk CE
 go_wp2_with fail
 go_ret
 exact ⟨rfl,hb⟩
theorem pbits_any (s:ByteArray) (w:World) (hs:s.size≤100000):Calls Tryz.prog 53 #[.string s] w fun e w'=>e=.returned (.string (wrX 3 (qay++s)))∧Below w.heap.size w w':=by
 have e:catB [qay,s]=qay++s:=by rw [qcf,qbZ]
 have CE:=hid (qb4 3 w.heap.size 2 [qay,s] (w.alloc (.cells #[.string ⟨#[0]⟩,.string s] 9)) (by decide) (by decide) rfl (by decide) (by rw [e,qcG];omega) _ (qag w _))
 rw [e] at CE;have hb:=qah w (.cells #[.string ⟨#[0]⟩,.string s] 9);generalize wrX 3 (qay++s)=R at *;clear hs e
 go_enter Tryz.func53,Tryz.ntmps53
 go_wp2_with fail
 generalize (w.alloc _)=W0 at *
 refine CE.out.mono ?_
 rintro ee W2 ⟨rfl,bk⟩;replace hb:=hb.trans (bk.mono hb.size);clear bk CE
 go_wp2_with fail
 go_ret
 exact ⟨rfl,hb⟩
set_option maxHeartbeats 2000000 in
theorem pnamed_any (nm:ByteArray) (w:World) (hn:nm.size≤10000):Calls Tryz.prog 54 #[.string nm] w fun e w'=>e=.returned (.string (qaB nm))∧Below w.heap.size w w':=by
 obtain ⟨n1,n2,n3,n4⟩:=qdy nm
 have e:catB [oidX [2,5,4,3],wrX 12 nm]=oidX [2,5,4,3]++wrX 12 nm:=by rw [qcf,qbZ]
 have CO:=hid (poid_any w.heap.size 4 [2,5,4,3] (w.alloc (.cells #[.int .i64 2,.int .i64 5,.int .i64 4,.int .i64 3] 3)) rfl (by decide) (fours 2 5 4 3 (by decide) (by decide) (by decide) (by decide)) _ (qag w _))
 have hb:=qah w (.cells #[.int .i64 2,.int .i64 5,.int .i64 4,.int .i64 3] 3)
 have C1:=hid (fun W=>qb4 12 W.heap.size 1 [nm] (W.alloc (.cells #[.string nm] 9)) (by decide) (by decide) rfl (by decide) (by rw [qbZ];omega) _ (qag W _))
 have C2:=hid (fun W=>qb4 48 W.heap.size 2 [oidX [2,5,4,3],wrX 12 nm] (W.alloc (.cells #[.string (oidX [2,5,4,3]),.string (wrX 12 nm)] 9)) (by decide) (by decide) rfl (by decide) (by rw [e];omega) _ (qag W _))
 rw [e] at C2
 have C3:=hid (fun W=>qb4 49 W.heap.size 1 [wrX 48 (oidX [2,5,4,3]++wrX 12 nm)] (W.alloc (.cells #[.string (wrX 48 (oidX [2,5,4,3]++wrX 12 nm))] 9)) (by decide) (by decide) rfl (by decide) (by rw [qbZ];omega) _ (qag W _))
 have C4:=hid (fun W=>qb4 48 W.heap.size 1 [wrX 49 (wrX 48 (oidX [2,5,4,3]++wrX 12 nm))] (W.alloc (.cells #[.string (wrX 49 (wrX 48 (oidX [2,5,4,3]++wrX 12 nm)))] 9)) (by decide) (by decide) rfl (by decide) (by rw [qbZ];omega) _ (qag W _))
 rw [qbZ] at C1 C3 C4
 rw [show wrX 48 (wrX 49 (wrX 48 (oidX [2,5,4,3]++wrX 12 nm)))=qaB nm from rfl] at C4
 generalize qaB nm=R at *;generalize wrX 49 (wrX 48 (oidX [2,5,4,3]++wrX 12 nm))=X3 at *;generalize wrX 48 (oidX [2,5,4,3]++wrX 12 nm)=X2 at *;generalize wrX 12 nm=X1 at *;generalize oidX [2,5,4,3]=X at *;clear hn e n1 n2 n3 n4
 go_enter Tryz.func54,Tryz.ntmps54
 go_wp2_with fail
 generalize (w.alloc _)=W0 at *
 refine CO.out.mono ?_
 rintro ee W1 ⟨rfl,bk⟩;replace hb:=hb.trans (bk.mono hb.size);clear bk CO
 go_wp2_with fail
 refine (C1.out W1).mono ?_
 rintro ee W2 ⟨rfl,bk⟩;replace hb:=hb.trans (((qah W1 _).trans (bk.mono (qah W1 _).size)).mono hb.size);clear bk C1
 go_wp2_with fail
 refine (C2.out W2).mono ?_
 rintro ee W3 ⟨rfl,bk⟩;replace hb:=hb.trans (((qah W2 _).trans (bk.mono (qah W2 _).size)).mono hb.size);clear bk C2
 go_wp2_with fail
 refine (C3.out W3).mono ?_
 rintro ee W4 ⟨rfl,bk⟩;replace hb:=hb.trans (((qah W3 _).trans (bk.mono (qah W3 _).size)).mono hb.size);clear bk C3
 go_wp2_with fail
 refine (C4.out W4).mono ?_
 rintro ee W5 ⟨rfl,bk⟩;replace hb:=hb.trans (((qah W4 _).trans (bk.mono (qah W4 _).size)).mono hb.size);clear bk C4
 go_wp2_with fail
 go_ret
 exact ⟨rfl,hb⟩
theorem qe7 (inn sig:ByteArray) (w:World) (hi:inn.size≤100000) (hs:sig.size≤100000):Calls Tryz.prog 32 #[.string inn,.string sig] w fun e w'=>e=.returned (.string (whoB inn sig))∧Below w.heap.size w w':=by
 have CA:=hid palg_any
 have CB:=hid (fun W=>pbits_any sig W hs)
 have w1:=qcj 3 (qay++sig);have z1:=qcG sig
 have ha:algB.size=7:=by rw [qej];rfl
 have e:catB [inn,algB,wrX 3 (qay++sig)]=inn++algB++wrX 3 (qay++sig):=by rw [qcf,qcf,qbZ,ByteArray.append_assoc]
 have CE:=hid (fun W=>qb4 48 W.heap.size 3 [inn,algB,wrX 3 (qay++sig)] (W.alloc (.cells #[.string inn,.string algB,.string (wrX 3 (qay++sig))] 9)) (by decide) (by decide) rfl (by decide) (by rw [e,ByteArray.size_append,ByteArray.size_append];omega) _ (qag W _))
 rw [e,show wrX 48 (inn++algB++wrX 3 (qay++sig))=whoB inn sig from rfl] at CE
 have hb:=Below.refl w.heap.size w;generalize whoB inn sig=R at *;generalize wrX 3 (qay++sig)=X at *;generalize algB=AL at *;clear hs hi e w1 z1 ha
 go_enter Tryz.func32,Tryz.ntmps32
 go_wp2_with fail
 refine (CA.out _).mono ?_
 rintro ee W1 ⟨rfl,bk⟩;replace hb:=hb.trans (bk.mono hb.size);clear bk CA
 go_wp2_with fail
 refine (CB.out _).mono ?_
 rintro ee W2 ⟨rfl,bk⟩;replace hb:=hb.trans (bk.mono hb.size);clear bk CB
 go_wp2_with fail
 refine (CE.out W2).mono ?_
 rintro ee W3 ⟨rfl,bk⟩;replace hb:=hb.trans (((qah W2 _).trans (bk.mono (qah W2 _).size)).mono hb.size);clear bk CE
 go_wp2_with fail
 go_ret
 exact ⟨rfl,hb⟩
set_option maxHeartbeats 16000000 in
theorem pinner_any (sr:Int) (b:ByteArray) (d e:Nat) (f:ByteArray) (w:World) (ha0:-9223372036854775808≤sr) (ha1:sr≤9223372036854775807) (hd:d≤253402300799) (he:e≤253402300799) (hs:b.size≤1000) (hf:f.size≤1000) (hQ:PowQ w) :
  Calls Tryz.prog 30 #[.agg #[.int .i64 sr,.string b,.int .i64 (d:Int),.int .i64 (e:Int),.string f]] w fun ee w'=>ee=.returned (.string (innB ⟨sr,b,(d:Int),(e:Int),f⟩))∧Below w.heap.size w w':=by
 have hb:=qah w (.cells #[.int .i64 sr,.string b,.int .i64 (d:Int),.int .i64 (e:Int),.string f] 28);have HG:=hid (qag w (.cells #[.int .i64 sr,.string b,.int .i64 (d:Int),.int .i64 (e:Int),.string f] 28));obtain ⟨c0,c1,c2,c3,c4⟩:=qal HG.out;have HQ:=hid (hQ.step hb);obtain ⟨s1,s2,s3,s4,s5,s6,s7⟩:=qc1 ⟨sr,b,(d:Int),(e:Int),f⟩;obtain ⟨n1,n2,n3,n4⟩:=qdy b
 have ha:algB.size=7:=by rw [qej];rfl
 have td:=qfo d;have te:=qfo e
 have xd:timX (d:Int)=timB d:=by rw [timX,if_pos ((qc0 _).2 (by omega))];rfl
 have xe:timX (e:Int)=timB e:=by rw [timX,if_pos ((qc0 _).2 (by omega))];rfl
 rw [valB,xd,xe] at s2;rw [keyB] at s5
 simp only [valB,keyB] at s6
 simp only [xd,xe] at s1 s2 s6
 simp only at s4 s5
 have CA:=hid palg_any
 have CN:=hid (fun W=>pnamed_any b W (by omega))
 have CB:=hid (fun W=>pbits_any f W (by omega))
 have CI:=hid (fun W=>int_any sr W ha0 ha1)
 have CS1:=hid (fun W q=>qeO d W hd q)
 have CS2:=hid (fun W q=>qeO e W he q)
 have C1:=hid (fun g W t h=>qb4 24 g 1 [timB d] W (by decide) (by decide) rfl (by decide) (by rw [qbZ];omega) t h)
 have C2:=hid (fun g W t h=>qb4 24 g 1 [timB e] W (by decide) (by decide) rfl (by decide) (by rw [qbZ];omega) t h)
 have q3:catB [wrX 24 (timB d),wrX 24 (timB e)]=wrX 24 (timB d)++wrX 24 (timB e):=by rw [qcf,qbZ]
 have C3:=hid (fun g W t h=>qb4 48 g 2 [wrX 24 (timB d),wrX 24 (timB e)] W (by decide) (by decide) rfl (by decide) (by rw [q3];omega) t h)
 have q5:catB [algB,wrX 3 (qay++f)]=algB++wrX 3 (qay++f):=by rw [qcf,qbZ]
 have C5:=hid (fun g W t h=>qb4 48 g 2 [algB,wrX 3 (qay++f)] W (by decide) (by decide) rfl (by decide) (by rw [q5];omega) t h)
 rw [qbZ] at C1 C2;rw [q3] at C3;rw [q5] at C5
 have q6:catB [wrX 2 (intB sr),algB,qaB b,wrX 48 (wrX 24 (timB d)++wrX 24 (timB e)),qaB b,wrX 48 (algB++wrX 3 (qay++f))]=wrX 2 (intB sr)++algB++qaB b++wrX 48 (wrX 24 (timB d)++wrX 24 (timB e))++qaB b++wrX 48 (algB++wrX 3 (qay++f)):=by
  rw [qcf,qcf,qcf,qcf,qcf,qbZ];simp only [ByteArray.append_assoc]
 have C6:=hid (fun g W t h=>qb4 48 g 6 [wrX 2 (intB sr),algB,qaB b,wrX 48 (wrX 24 (timB d)++wrX 24 (timB e)),qaB b,wrX 48 (algB++wrX 3 (qay++f))] W (by decide) (by decide) rfl (by decide) (by rw [q6];omega) t h)
 rw [q6] at C6
 have HV:Hid (innB ⟨sr,b,(d:Int),(e:Int),f⟩=wrX 48 (wrX 2 (intB sr)++algB++qaB b++wrX 48 (wrX 24 (timB d)++wrX 24 (timB e))++qaB b++wrX 48 (algB++wrX 3 (qay++f)))):=hid (by rw [innB,valB,keyB];simp only [xd,xe])
 clear s1 s2 s3 s4 s5 s6 s7 n1 n2 n3 n4 td te xd xe q3 q5 q6 ha ha0 ha1 hd he hs hf hQ;generalize wrX 48 (wrX 2 (intB sr)++algB++qaB b++wrX 48 (wrX 24 (timB d)++wrX 24 (timB e))++qaB b++wrX 48 (algB++wrX 3 (qay++f)))=R at *;generalize wrX 48 (wrX 24 (timB d)++wrX 24 (timB e))=VB at *;generalize wrX 48 (algB++wrX 3 (qay++f))=KB at *;generalize wrX 24 (timB d)=X1 at *;generalize wrX 24 (timB e)=X2 at *;generalize wrX 3 (qay++f)=X3 at *;generalize timB d=T1 at *;generalize timB e=T2 at *;generalize qaB b=NB at *;generalize wrX 2 (intB sr)=IB at *;generalize algB=AL at *;generalize (d:Int)=dd at *;generalize (e:Int)=de at *
 go_enter Tryz.func30,Tryz.ntmps30
 go_wp2_with fail
 generalize (w.alloc _)=W0 at *;generalize hgg:w.heap.size=g at *;have HGG:=hid hgg;clear hgg
 refine qaC 12 37 [(Told.val (.pointer (some ⟨g,2,none⟩)),[1]),
  (Told.val (.int .i64 dd),[6]),
  (Told.val (.string T1),[7]),
  (tRow (sRow [T1]) 1 9,[8]),
  (Told.val (.string X1),[9]),
  (Told.val (.pointer (some ⟨g,3,none⟩)),[1]),
  (Told.val (.int .i64 de),[11]),
  (Told.val (.string T2),[12]),
  (tRow (sRow [T2]) 1 9,[13]),
  (Told.val (.string X2),[14]),
  (tRow (sRow [X1,X2]) 2 9,[10,15]),
  (Told.val (.string VB),[16])]
  (by kernel_rfl) (by kernel_rfl) rfl ?_ ?_
 ·simp only [take_succ_cons,List.take_zero,qaW,and_true]
  refine And.intro ?_ (And.intro ?_ (And.intro ?_ (And.intro ?_ (And.intro ?_ (And.intro ?_ (And.intro ?_ (And.intro ?_ (And.intro ?_ (And.intro ?_ (And.intro ?_ (?_)))))))))))
  ·intro a w hb h
   have e0:a.tmps.getD 1 undef=.pointer (some ⟨g,0,none⟩):=h 1 (by simp)
   simp only [getD_eq_getD_getElem?] at e0
   refine qaf ?_
   simp [go_sem,e0,qac]
  ·intro a w hb h
   have e0:a.tmps.getD 6 undef=.pointer (some ⟨g,2,none⟩):=h 6 (by simp)
   simp only [getD_eq_getD_getElem?] at e0
   have hc:=(hb.cell (block_lt_of_cell c2)).trans c2
   refine qaf ?_
   simp [go_sem,e0,qac,hc]
  ·intro a w hb h
   have e0:a.tmps.getD 7 undef=.int .i64 dd:=h 7 (by simp)
   simp only [getD_eq_getD_getElem?] at e0
   refine qaf ?_
   simp [go_sem,e0,qac]
   exact CS1.out _ (HQ.out.step hb)
  ·intro a w hb h
   have e0:a.tmps.getD 8 undef=.string T1:=h 8 (by simp)
   simp only [getD_eq_getD_getElem?] at e0
   simp [go_sem,e0,qan]
   exact ⟨qah _ _,_,rfl,qag _ _⟩
  ·intro a w hb h
   have t0:=h 9 (by simp)
   replace t0:(tRow (sRow [T1]) 1 9).T w (a.tmps.getD 9 undef):=t0;obtain ⟨g0,e0,r0⟩:=t0
   simp only [getD_eq_getD_getElem?] at e0
   refine qaf ?_
   simp [go_sem,e0,qac]
   exact C1.out _ _ _ r0
  ·intro a w hb h
   have e0:a.tmps.getD 1 undef=.pointer (some ⟨g,0,none⟩):=h 1 (by simp)
   simp only [getD_eq_getD_getElem?] at e0
   refine qaf ?_
   simp [go_sem,e0,qac]
  ·intro a w hb h
   have e0:a.tmps.getD 11 undef=.pointer (some ⟨g,3,none⟩):=h 11 (by simp)
   simp only [getD_eq_getD_getElem?] at e0
   have hc:=(hb.cell (block_lt_of_cell c3)).trans c3
   refine qaf ?_
   simp [go_sem,e0,qac,hc]
  ·intro a w hb h
   have e0:a.tmps.getD 12 undef=.int .i64 de:=h 12 (by simp)
   simp only [getD_eq_getD_getElem?] at e0
   refine qaf ?_
   simp [go_sem,e0,qac]
   exact CS2.out _ (HQ.out.step hb)
  ·intro a w hb h
   have e0:a.tmps.getD 13 undef=.string T2:=h 13 (by simp)
   simp only [getD_eq_getD_getElem?] at e0
   simp [go_sem,e0,qan]
   exact ⟨qah _ _,_,rfl,qag _ _⟩
  ·intro a w hb h
   have t0:=h 14 (by simp)
   replace t0:(tRow (sRow [T2]) 1 9).T w (a.tmps.getD 14 undef):=t0;obtain ⟨g0,e0,r0⟩:=t0
   simp only [getD_eq_getD_getElem?] at e0
   refine qaf ?_
   simp [go_sem,e0,qac]
   exact C2.out _ _ _ r0
  ·intro a w hb h
   have e0:a.tmps.getD 10 undef=.string X1:=h 10 (by simp)
   have e1:a.tmps.getD 15 undef=.string X2:=h 15 (by simp)
   simp only [getD_eq_getD_getElem?] at e0 e1
   simp [go_sem,e0,e1,qan]
   exact ⟨qah _ _,_,rfl,qag _ _⟩
  ·intro a w hb h
   have t0:=h 16 (by simp)
   replace t0:(tRow (sRow [X1,X2]) 2 9).T w (a.tmps.getD 16 undef):=t0;obtain ⟨g0,e0,r0⟩:=t0
   simp only [getD_eq_getD_getElem?] at e0
   refine qaf ?_
   simp [go_sem,e0,qac]
   exact C3.out _ _ _ r0
 simp only [take_succ_cons,List.take_zero,List.drop_succ_cons,List.drop_zero,qaX,Act.put,List.setIfInBounds_toArray,List.set_cons_succ,List.set_cons_zero]
 rintro X bk v6 q6 v7 q7 v8 q8 v9 q9 v10 q10 v11 q11 v12 q12 v13 q13 v14 q14 v15 q15 v16 q16 v17 q17;obtain rfl:=q6.symm;obtain rfl:=q7.symm;obtain rfl:=q8.symm;obtain rfl:=q10.symm;obtain rfl:=q11.symm;obtain rfl:=q12.symm;obtain rfl:=q13.symm;obtain rfl:=q15.symm;obtain rfl:=q17.symm;clear q6 q7 q8 q9 q10 q11 q12 q13 q14 q15 q16 q17;replace hb:=hb.trans (bk.mono (Nat.le_of_lt (qab HG.out)));replace HG:=hid (qaa bk (qab HG.out) HG.out);replace HQ:=hid (HQ.out.step bk);clear bk c0 c1 c2 c3 c4;obtain ⟨c0,c1,c2,c3,c4⟩:=qal HG.out
 go_wp2_with fail
 refine qaC 6 37 [(Told.val (.string AL),[]),
  (Told.val (.pointer (some ⟨g,4,none⟩)),[1]),
  (Told.val (.string f),[19]),
  (Told.val (.string X3),[20]),
  (tRow (sRow [AL,X3]) 2 9,[18,21]),
  (Told.val (.string KB),[22])]
  (by kernel_rfl) (by kernel_rfl) rfl ?_ ?_
 ·simp only [take_succ_cons,List.take_zero,qaW,and_true]
  refine And.intro ?_ (And.intro ?_ (And.intro ?_ (And.intro ?_ (And.intro ?_ (?_)))))
  ·intro a w hb h
   refine qaf ?_
   simp [go_sem,qac]
   exact CA.out _
  ·intro a w hb h
   have e0:a.tmps.getD 1 undef=.pointer (some ⟨g,0,none⟩):=h 1 (by simp)
   simp only [getD_eq_getD_getElem?] at e0
   refine qaf ?_
   simp [go_sem,e0,qac]
  ·intro a w hb h
   have e0:a.tmps.getD 19 undef=.pointer (some ⟨g,4,none⟩):=h 19 (by simp)
   simp only [getD_eq_getD_getElem?] at e0
   have hc:=(hb.cell (block_lt_of_cell c4)).trans c4
   refine qaf ?_
   simp [go_sem,e0,qac,hc]
  ·intro a w hb h
   have e0:a.tmps.getD 20 undef=.string f:=h 20 (by simp)
   simp only [getD_eq_getD_getElem?] at e0
   refine qaf ?_
   simp [go_sem,e0,qac]
   exact CB.out _
  ·intro a w hb h
   have e0:a.tmps.getD 18 undef=.string AL:=h 18 (by simp)
   have e1:a.tmps.getD 21 undef=.string X3:=h 21 (by simp)
   simp only [getD_eq_getD_getElem?] at e0 e1
   simp [go_sem,e0,e1,qan]
   exact ⟨qah _ _,_,rfl,qag _ _⟩
  ·intro a w hb h
   have t0:=h 22 (by simp)
   replace t0:(tRow (sRow [AL,X3]) 2 9).T w (a.tmps.getD 22 undef):=t0;obtain ⟨g0,e0,r0⟩:=t0
   simp only [getD_eq_getD_getElem?] at e0
   refine qaf ?_
   simp [go_sem,e0,qac]
   exact C5.out _ _ _ r0
 simp only [take_succ_cons,List.take_zero,List.drop_succ_cons,List.drop_zero,qaX,Act.put,List.setIfInBounds_toArray,List.set_cons_succ,List.set_cons_zero]
 rintro X bk v18 q18 v19 q19 v20 q20 v21 q21 v22 q22 v23 q23;obtain rfl:=q18.symm;obtain rfl:=q19.symm;obtain rfl:=q20.symm;obtain rfl:=q21.symm;obtain rfl:=q23.symm;clear q18 q19 q20 q21 q22 q23;replace hb:=hb.trans (bk.mono (Nat.le_of_lt (qab HG.out)));replace HG:=hid (qaa bk (qab HG.out) HG.out);replace HQ:=hid (HQ.out.step bk);clear bk c0 c1 c2 c3 c4;obtain ⟨c0,c1,c2,c3,c4⟩:=qal HG.out
 go_wp2_with fail
 refine (CN.out _).mono ?_
 rintro ee V1 ⟨rfl,bk⟩;replace hb:=hb.trans (bk.mono (Nat.le_of_lt (qab HG.out)));replace HG:=hid (qaa bk (qab HG.out) HG.out);replace HQ:=hid (HQ.out.step bk);clear bk c0 c1 c2 c3 c4;obtain ⟨c0,c1,c2,c3,c4⟩:=qal HG.out
 go_wp2_with fail
 refine (CI.out _).mono ?_
 rintro ee V2 ⟨rfl,bk⟩;replace hb:=hb.trans (bk.mono (Nat.le_of_lt (qab HG.out)));replace HG:=hid (qaa bk (qab HG.out) HG.out);replace HQ:=hid (HQ.out.step bk);clear bk c0 c1 c2 c3 c4;obtain ⟨c0,c1,c2,c3,c4⟩:=qal HG.out
 go_wp2_with fail
 refine (CA.out _).mono ?_
 rintro ee V3 ⟨rfl,bk⟩;replace hb:=hb.trans (bk.mono (Nat.le_of_lt (qab HG.out)));replace HG:=hid (qaa bk (qab HG.out) HG.out);replace HQ:=hid (HQ.out.step bk);clear bk c0 c1 c2 c3 c4;obtain ⟨c0,c1,c2,c3,c4⟩:=qal HG.out
 go_wp2_with fail
 refine (C6.out _ _ _ (qag V3 _)).mono ?_
 rintro ee V4 ⟨rfl,bk⟩;replace hb:=hb.trans (((qah V3 _).trans (bk.mono (qah V3 _).size)).mono (Nat.le_of_lt (qab HG.out)));clear bk
 go_wp2_with fail
 go_ret
 exact ⟨by rw [HV.out];rfl,by first | exact hb | (rw [HGG.out];exact hb)⟩
end
section
open Go.RowKit Go.Sort
theorem row_int {W:World} {g i:Nat} {zs:List Int} {t:TypeId} (h:W.heap[g]?=some (.cells (iCells zs).toArray t)) (hi:i<zs.length):W.cell? ⟨g,i,none⟩=some (.int .i64 (zs.getD i 0)):=by
 obtain ⟨g',off,e,hc⟩:=row_ints h i hi
 cases e
 rw [Nat.zero_add] at hc;exact hc
set_option maxHeartbeats 8000000 in
theorem qcI (s:ByteArray) (g n:Nat) (ks:List Nat) (w:World) (hn:ks.length=n) (hm:n≤100) (hk:∀ k ∈ ks,k≤100) (hs:s.size≤1000000) (t:TypeId) (hg:w.heap[g]?=some (.cells (iCells (ks.map fun (k:Nat)=>(k:Int))).toArray t)) :
  Calls Tryz.prog 68 #[.string s,.slice (some ⟨g,0,none⟩) n n] w fun e w'=>e=.returned (.string (qai ks s))∧Below w.heap.size w w':=by
 have HC:=hid (fun (i:Nat) (hi:i<n)=>(show w.cell? ⟨g,i,none⟩=some (.int .i64 ((ks.getD i 0:Nat):Int)) from by
  rw [row_int hg (by rw [List.length_map];omega)]
  congr 2
  rw [List.getD_eq_getElem?_getD,List.getD_eq_getElem?_getD,List.getElem?_map,List.getElem?_eq_getElem (by omega)]
  rfl))
 have HD:=hid (fun (i:Nat) (hi:i<n)=>(show ks.drop i=ks.getD i 0 :: ks.drop (i+1)∧ks.getD i 0≤100 from by
  have e:ks.getD i 0=ks[i]'(by omega):=by rw [List.getD_eq_getElem?_getD,List.getElem?_eq_getElem (by omega),Option.getD_some]
  exact ⟨by rw [e];exact List.drop_eq_getElem_cons (by omega),by rw [e];exact hk _ (List.getElem_mem _)⟩))
 have HE:Hid (ks.drop n=[]):=hid (by rw [← hn,List.drop_length])
 obtain ⟨R,hR⟩:∃ R,qai ks s=R:=⟨_,rfl⟩
 have HR0:Hid (qai (ks.drop 0) s=R):=hid (by rw [List.drop_zero,hR])
 have hb:=Below.refl w.heap.size w;rw [hR];clear hR hg hk hn
 go_enter Tryz.func68,Tryz.ntmps68
 go_wp2_with fail
 go_loopw [0,9] (fun dv iv wr=>∃ (i:Nat) (s1:ByteArray),i≤n∧iv=.int .i64 (i:Int)∧dv=.string s1∧s1.size≤1000000∧Hid (qai (ks.drop i) s1=R)∧Below w.heap.size w wr) (fun _ iv _=>n-(intOf iv).toNat)
 case atStart=>exact ⟨0,s,Nat.zero_le _,rfl,rfl,hs,HR0,hb⟩
 case round=>
  clear hb HR0 hs;obtain ⟨i,s1,hi,rfl,rfl,hs1,HR,hb⟩:=hrel
  by_cases hlt:i<n
  ·have hd:decide ((i:Int)<(n:Int))=true:=by simp;omega
   have hin:(i:Int)<(n:Int):=by omega
   have ck:=(hb.cell (block_lt_of_cell (HC.out i hlt))).trans (HC.out i hlt);obtain ⟨he,hk1⟩:=HD.out i hlt;obtain ⟨k,hk2⟩:∃ k,ks.getD i 0=k:=⟨_,rfl⟩;rw [hk2] at ck he hk1
   have HR1:Hid (qai (ks.drop (i+1)) (qbb (goN k s1))=R):=hid (by have:=HR.out;rw [he] at this;exact this)
   have CRB:=hid (fun W=>read_any (goN k s1) W (by have:=goN_le k s1;omega))
   have HSZ:Hid ((qbb (goN k s1)).size≤1000000):=hid (by have:=goN_le k s1;have:=rdBody_le (goN k s1);omega)
   have CRR:=hid (fun q W=>read_any (goN q s1) W (by have:=goN_le q s1;omega))
   have HST:=hid (fun q=>goN_step q s1)
   have H0:Hid (goN 0 s1=s1):=hid rfl;clear he hk2 HR hs1
   go_wp2_with fail
   rw [show (Value.string s1)=.string (goN 0 s1) from rfl]
   go_loopw [0,14] (fun dv qv wr=>∃ (q:Nat),q≤k∧qv=.int .i64 (q:Int)∧dv=.string (goN q s1)∧Below w.heap.size w wr) (fun _ qv _=>k-(intOf qv).toNat)
   case atStart=>exact ⟨0,Nat.zero_le _,rfl,rfl,hb⟩
   case round=>
    clear hb ck;obtain ⟨q,hq,rfl,rfl,hb⟩:=hrel
    by_cases hqk:q<k
    ·have hd2:decide ((q:Int)<(k:Int))=true:=by simp;omega
     have C:=hid (CRR.out q);have HS:=hid (HST.out q);generalize goN q s1=S at *;generalize rdTag S=t1 at *;generalize qbb S=t2 at *;generalize qcb S=t4 at *;obtain ⟨t3,ht3⟩:∃ t3,qbK S=t3:=⟨_,rfl⟩;rw [ht3] at C HS;clear ht3
     go_wp2_with fail
     refine (C.out _).mono ?_
     rintro ee W1 ⟨rfl,bk⟩;replace hb:=hb.trans (bk.mono hb.size);clear bk C
     go_wp2_with fail
     go_roundw
     case rel=>exact ⟨q+1,by omega,by go_num,by rw [HS.out],hb⟩
     case measure=>simp [intOf];omega
    ·have hd2:decide ((q:Int)<(k:Int))=false:=by simp;omega
     obtain rfl:q=k:=by omega
     generalize goN q s1=S at *;generalize rdTag S=t1 at *;generalize qbb S=t2 at *;generalize qbK S=t3 at *;generalize qcb S=t4 at *
     go_wp2_with fail
     refine (CRB.out _).mono ?_
     rintro ee W1 ⟨rfl,bk⟩;replace hb:=hb.trans (bk.mono hb.size);clear bk CRB
     go_wp2_with fail
     go_roundw
     case rel=>exact ⟨i+1,t2,by omega,by go_num,rfl,HSZ.out,HR1,hb⟩
     case measure=>simp [intOf];omega
  ·have hd:decide ((i:Int)<(n:Int))=false:=by simp;omega
   obtain rfl:i=n:=by omega
   have hV:s1=R:=by have:=HR.out;rw [HE.out] at this;exact this
   have HV:=hid hV;clear hV
   go_wp2_with fail
   go_ret
   exact ⟨by rw [HV.out];rfl,hb⟩
end
section
open Go.RowKit Go.Sort
set_option maxHeartbeats 16000000 in
theorem pfields_any (s:ByteArray) (w:World) (hs:s.size≤1000) (hQ:PowQ w) :
  Calls Tryz.prog 38 #[.string s] w fun ee w'=>∃ (sr:Int) (b:ByteArray) (d e:Nat) (f sg:ByteArray),ee=.returned (.tuple #[.agg (cRow sr b (d:Int) (e:Int) f),.string sg])∧
   (-9223372036854775808≤sr∧sr≤9223372036854775807∧d≤253402300799∧e≤253402300799∧b.size≤1000∧f.size≤1000∧sg.size≤1000)∧
   (okC s=true→parT s=(⟨sr,b,(d:Int),(e:Int),f⟩,sg))∧Below w.heap.size w w':=by
 have HR:=hid (qag w (.cells (cRow 0 ⟨#[]⟩ 0 0 ⟨#[]⟩) 28));have hb:=qah w (.cells (cRow 0 ⟨#[]⟩ 0 0 ⟨#[]⟩) 28);have HQ:=hid (hQ.step hb);obtain ⟨hz,hi⟩:=zero_of_info infoCert;have l1:=qdo [0] s;have l2:=qdo [0] (qai [0] s);have l3:=qdo [3] (qai [0] (qai [0] s));have l4:=qdo [0] (qai [0] (qai [0] s));have l5:=qdo [2,0,0,1] (qai [0] (qai [0] s));have l6:=qdo [5,1] (qai [0] (qai [0] s));have l7:=qdo [2] (qai [0] s);have l8:=trimZ_le (qai [5,1] (qai [0] (qai [0] s)));have l9:=trimZ_le (qai [2] (qai [0] s));have hri:=ri_range (qai [0] (qai [0] (qai [0] s)))
 have HPAR:Hid (∀ (d e:Nat),(∀ m,m≤253402300799→timB m=qai [0] (qai [3] (qai [0] (qai [0] s)))→d=m)→(∀ m,m≤253402300799→timB m=qai [1] (qai [3] (qai [0] (qai [0] s)))→e=m)→okC s=true→
   parT s=(⟨riV (qai [0] (qai [0] (qai [0] s))),qai [2,0,0,1] (qai [0] (qai [0] s)),(d:Int),(e:Int),qd3 (qai [5,1] (qai [0] (qai [0] s)))⟩,qd3 (qai [2] (qai [0] s)))):=hid (fun d e hd he hok=>by
  obtain ⟨⟨sr,b,fr,tt,f⟩,sg,hp⟩:∃ c sg,parT s=(c,sg):=⟨_,_,rfl⟩;have hbo:=par_bounds s;rw [hp] at hbo;obtain ⟨hr,hk,hg,hw⟩:=(ok_iff s _ sg hbo.1 hbo.2.1).2 ⟨hok,hp⟩;obtain ⟨_,r2,r3,r4,_⟩:=qe5 _ hr;have hnm:b.size≤32:=(isNm_size _ r2).2
  obtain ⟨f1,f2,f3,f4,f5,f6⟩:=find_who ⟨sr,b,fr,tt,f⟩ sg (show b.size≤1000 by omega) hk hg
  rw [hw] at f1 f2 f3 f4 f5 f6;have g1:qai [0,0,0] s=qai [0] (qai [0] (qai [0] s)):=rfl;have g2:qai [0,0] s=qai [0] (qai [0] s):=rfl;rw [g1] at f1;rw [g2] at f2 f3 f4 f5;obtain ⟨t1,t2⟩:=(qc0 _).1 r3;obtain ⟨t3,t4⟩:=(qc0 _).1 r4
  simp only at f1 f2 f3 f4 f5 t1 t2 t3 t4 r3 r4
  have e1:d=fr.toNat:=hd fr.toNat (by omega) (by rw [f3,timX,if_pos r3])
  have e2:e=tt.toNat:=he tt.toNat (by omega) (by rw [f4,timX,if_pos r4])
  rw [hp,f1,f2,f5,f6,(int_back sr hbo.1 hbo.2.1).2,trimZ_zero,trimZ_zero,e1,e2,Int.toNat_of_nonneg t1,Int.toNat_of_nonneg t3])
 have CI:=hid (fun W=>readInt_any (qai [0] (qai [0] (qai [0] s))) W (by omega))
 have K0:∀ k ∈ [0],k≤100:=by decide
 have C1:=hid (fun W=>qcI s W.heap.size 1 [0] (W.alloc (.cells #[.int .i64 0] 3)) rfl (by decide) (by decide) (by omega) _ (qag W _))
 have C2:=hid (fun W=>qcI (qai [0] s) W.heap.size 1 [0] (W.alloc (.cells #[.int .i64 0] 3)) rfl (by decide) (by decide) (by omega) _ (qag W _))
 have C3:=hid (fun W=>qcI (qai [0] (qai [0] s)) W.heap.size 1 [3] (W.alloc (.cells #[.int .i64 3] 3)) rfl (by decide) (by decide) (by omega) _ (qag W _))
 have C4:=hid (fun W=>qcI (qai [0] (qai [0] s)) W.heap.size 1 [0] (W.alloc (.cells #[.int .i64 0] 3)) rfl (by decide) (by decide) (by omega) _ (qag W _))
 have C5:=hid (fun W=>qcI (qai [0] (qai [0] s)) W.heap.size 4 [2,0,0,1] (W.alloc (.cells #[.int .i64 2,.int .i64 0,.int .i64 0,.int .i64 1] 3)) rfl (by decide) (by decide) (by omega) _ (qag W _))
 have C6:=hid (fun W=>qcI (qai [3] (qai [0] (qai [0] s))) W.heap.size 1 [0] (W.alloc (.cells #[.int .i64 0] 3)) rfl (by decide) (by decide) (by omega) _ (qag W _))
 have C7:=hid (fun W=>qcI (qai [3] (qai [0] (qai [0] s))) W.heap.size 1 [1] (W.alloc (.cells #[.int .i64 1] 3)) rfl (by decide) (by decide) (by omega) _ (qag W _))
 have C8:=hid (fun W=>qcI (qai [0] (qai [0] s)) W.heap.size 2 [5,1] (W.alloc (.cells #[.int .i64 5,.int .i64 1] 3)) rfl (by decide) (by decide) (by omega) _ (qag W _))
 have C9:=hid (fun W=>qcI (qai [0] s) W.heap.size 1 [2] (W.alloc (.cells #[.int .i64 2] 3)) rfl (by decide) (by decide) (by omega) _ (qag W _))
 have CT1:=hid (fun W q=>ptimeOf_any (qai [0] (qai [3] (qai [0] (qai [0] s)))) W q)
 have CT2:=hid (fun W q=>ptimeOf_any (qai [1] (qai [3] (qai [0] (qai [0] s)))) W q)
 have CZ1:=hid (fun W=>Tryz.strings_TrimPrefix (qai [5,1] (qai [0] (qai [0] s))) ⟨#[0]⟩ W)
 have CZ2:=hid (fun W=>Tryz.strings_TrimPrefix (qai [2] (qai [0] s)) ⟨#[0]⟩ W)
 rw [show (⟨(Lib.trimPrefix (qai [5,1] (qai [0] (qai [0] s))).data.toList (⟨#[0]⟩:ByteArray).data.toList).toArray⟩:ByteArray)=qd3 (qai [5,1] (qai [0] (qai [0] s))) from rfl] at CZ1
 rw [show (⟨(Lib.trimPrefix (qai [2] (qai [0] s)).data.toList (⟨#[0]⟩:ByteArray).data.toList).toArray⟩:ByteArray)=qd3 (qai [2] (qai [0] s)) from rfl] at CZ2
 have HB:Hid ((-9223372036854775808≤riV (qai [0] (qai [0] (qai [0] s)))∧riV (qai [0] (qai [0] (qai [0] s)))≤9223372036854775807)∧(qai [2,0,0,1] (qai [0] (qai [0] s))).size≤1000∧(qd3 (qai [5,1] (qai [0] (qai [0] s)))).size≤1000∧(qd3 (qai [2] (qai [0] s))).size≤1000):=hid ⟨hri,by omega,by omega,by omega⟩
 clear l1 l2 l3 l4 l5 l6 l7 l8 l9 hri K0 hs hQ hi;generalize qd3 (qai [5,1] (qai [0] (qai [0] s)))=z1 at *;generalize qd3 (qai [2] (qai [0] s))=z2 at *;generalize riV (qai [0] (qai [0] (qai [0] s)))=rv at *;generalize riErr (qai [0] (qai [0] (qai [0] s)))=re at *;generalize qai [0] (qai [3] (qai [0] (qai [0] s)))=x6 at *;generalize qai [1] (qai [3] (qai [0] (qai [0] s)))=x7 at *;generalize qai [3] (qai [0] (qai [0] s))=x3 at *;generalize qai [0] (qai [0] (qai [0] s))=x4 at *;generalize qai [2,0,0,1] (qai [0] (qai [0] s))=x5 at *;generalize qai [5,1] (qai [0] (qai [0] s))=x8 at *;generalize qai [2] (qai [0] s)=x9 at *;generalize qai [0] (qai [0] s)=x2 at *;generalize qai [0] s=x1 at *
 have hW:(w.alloc (.cells (cRow 0 ⟨#[]⟩ 0 0 ⟨#[]⟩) 28)).heap.size=w.heap.size+1:=by simp
 have C1:=hid (C1.out (w.alloc (.cells (cRow 0 ⟨#[]⟩ 0 0 ⟨#[]⟩) 28)));rw [hW] at C1;have HW:=hid hW;clear hW
 go_enter Tryz.func38,Tryz.ntmps38
 go_wp2_with fail
 generalize (w.alloc _)=W0 at *;generalize hBB:w.heap.size=B at *;have HBB:=hid hBB;clear hBB
 refine C1.out.mono ?_
 rintro ee W1 ⟨rfl,bk⟩;replace bk:=(qah W0 _).trans (bk.mono (qah W0 _).size);replace hb:=hb.trans (bk.mono (Nat.le_of_lt (qab HR.out)));replace HR:=hid (qaa bk (qab HR.out) HR.out);replace HQ:=hid (HQ.out.step bk);clear bk;clear C1
 go_wp2_with fail
 refine (C2.out W1).mono ?_
 rintro ee W2 ⟨rfl,bk⟩;replace bk:=(qah W1 _).trans (bk.mono (qah W1 _).size);replace hb:=hb.trans (bk.mono (Nat.le_of_lt (qab HR.out)));replace HR:=hid (qaa bk (qab HR.out) HR.out);replace HQ:=hid (HQ.out.step bk);clear bk;clear C2
 go_wp2_with fail
 refine (C3.out W2).mono ?_
 rintro ee W3 ⟨rfl,bk⟩;replace bk:=(qah W2 _).trans (bk.mono (qah W2 _).size);replace hb:=hb.trans (bk.mono (Nat.le_of_lt (qab HR.out)));replace HR:=hid (qaa bk (qab HR.out) HR.out);replace HQ:=hid (HQ.out.step bk);clear bk;clear C3
 go_wp2_with fail
 refine (C4.out W3).mono ?_
 rintro ee W4 ⟨rfl,bk⟩;replace bk:=(qah W3 _).trans (bk.mono (qah W3 _).size);replace hb:=hb.trans (bk.mono (Nat.le_of_lt (qab HR.out)));replace HR:=hid (qaa bk (qab HR.out) HR.out);replace HQ:=hid (HQ.out.step bk);clear bk;clear C4
 go_wp2_with fail
 refine (CI.out W4).mono ?_
 rintro ee W5 ⟨rfl,bk⟩;replace hb:=hb.trans (bk.mono (Nat.le_of_lt (qab HR.out)));replace HR:=hid (qaa bk (qab HR.out) HR.out);replace HQ:=hid (HQ.out.step bk);clear bk;clear CI
 go_wp2_with fail
 refine (C5.out W5).mono ?_
 rintro ee W6 ⟨rfl,bk⟩;replace bk:=(qah W5 _).trans (bk.mono (qah W5 _).size);replace hb:=hb.trans (bk.mono (Nat.le_of_lt (qab HR.out)));replace HR:=hid (qaa bk (qab HR.out) HR.out);replace HQ:=hid (HQ.out.step bk);clear bk;clear C5
 go_wp2_with fail
 refine (C6.out W6).mono ?_
 rintro ee W7 ⟨rfl,bk⟩;replace bk:=(qah W6 _).trans (bk.mono (qah W6 _).size);replace hb:=hb.trans (bk.mono (Nat.le_of_lt (qab HR.out)));replace HR:=hid (qaa bk (qab HR.out) HR.out);replace HQ:=hid (HQ.out.step bk);clear bk;clear C6
 go_wp2_with fail
 refine (CT1.out W7 HQ.out).mono ?_
 rintro ee W8 ⟨d,rfl,hd1,hd2,bk⟩;have HD2:=hid hd2;clear hd2;replace hb:=hb.trans (bk.mono (Nat.le_of_lt (qab HR.out)));replace HR:=hid (qaa bk (qab HR.out) HR.out);replace HQ:=hid (HQ.out.step bk);clear bk;clear CT1
 go_wp2_with fail
 refine (C7.out W8).mono ?_
 rintro ee W9 ⟨rfl,bk⟩;replace bk:=(qah W8 _).trans (bk.mono (qah W8 _).size);replace hb:=hb.trans (bk.mono (Nat.le_of_lt (qab HR.out)));replace HR:=hid (qaa bk (qab HR.out) HR.out);replace HQ:=hid (HQ.out.step bk);clear bk;clear C7
 go_wp2_with fail
 refine (CT2.out W9 HQ.out).mono ?_
 rintro ee W10 ⟨e,rfl,he1,he2,bk⟩;have HE2:=hid he2;clear he2;replace hb:=hb.trans (bk.mono (Nat.le_of_lt (qab HR.out)));replace HR:=hid (qaa bk (qab HR.out) HR.out);replace HQ:=hid (HQ.out.step bk);clear bk;clear CT2
 go_wp2_with fail
 refine (C8.out W10).mono ?_
 rintro ee W11 ⟨rfl,bk⟩;replace bk:=(qah W10 _).trans (bk.mono (qah W10 _).size);replace hb:=hb.trans (bk.mono (Nat.le_of_lt (qab HR.out)));replace HR:=hid (qaa bk (qab HR.out) HR.out);replace HQ:=hid (HQ.out.step bk);clear bk;clear C8
 go_wp2_with fail
 refine (CZ1.out W11).mono ?_
 rintro ee W11x ⟨rfl,hw⟩;replace hw:=hw.symm;subst hw;clear CZ1
 go_wp2_with fail
 refine (C9.out W11).mono ?_
 rintro ee W12 ⟨rfl,bk⟩;replace bk:=(qah W11 _).trans (bk.mono (qah W11 _).size);replace hb:=hb.trans (bk.mono (Nat.le_of_lt (qab HR.out)));replace HR:=hid (qaa bk (qab HR.out) HR.out);replace HQ:=hid (HQ.out.step bk);clear bk;clear C9
 go_wp2_with fail
 refine (CZ2.out W12).mono ?_
 rintro ee W12x ⟨rfl,hw⟩;replace hw:=hw.symm;subst hw;clear CZ2
 go_wp2_with (with_reducible refine wpList_store_row rfl 28 _ _ rfl B (cRow rv x5 (d:Int) (e:Int) z1) rfl rfl 28 _ HR.out (qaD _ _ _ _ _) rfl (qdc _ _ _ _ _) ?_)
 exact bodyPost_ret (qbF (by rfl) _ _ B 28 _ (0,0) _ rfl (setRow_heap _ _ _ _ _ _ HR.out) Tryz.underlying28 rfl (qaD _ _ _ _ _)) rfl ⟨rv,x5,d,e,z1,z2,rfl,⟨HB.out.1.1,HB.out.1.2,hd1,he1,HB.out.2.1,HB.out.2.2.1,HB.out.2.2.2⟩,HPAR.out d e HD2.out HE2.out,by rw [HBB.out];exact below_setRow hb (Nat.le_refl _) _⟩
end
section
open Go.RowKit Go.Sort
set_option maxHeartbeats 4000000 in
theorem pisName_any (s:ByteArray) (w:World) (hs:s.size≤1000000000):Calls Tryz.prog 50 #[.string s] w fun e w'=>e=.returned (.bool (isNm s))∧Below w.heap.size w w':=by
 have hb:=Below.refl w.heap.size w;have se:=(qdm s).2
 have hv:isNm s=(decide (1≤s.size)&&decide (s.size≤32)&&(s.data.toList.all fun x=>decide (32≤x.toNat)&&decide (x.toNat≤126))):=rfl
 by_cases hz:s.size=0
 ·rw [decide_eq_true hz] at se
  have HV:Hid (isNm s=false):=hid (by rw [hv,decide_eq_false (by omega)];rfl)
  clear hz hv
  go_enter Tryz.func50,Tryz.ntmps50
  go_wp2_with fail
  go_ret
  exact ⟨by rw [HV.out];rfl,hb⟩
 rw [decide_eq_false hz] at se
 by_cases h32:32<s.size
 ·have d1:decide ((32:Int)<(s.size:Int))=true:=by simp;omega
  have HV:Hid (isNm s=false):=hid (by rw [hv,decide_eq_false (show ¬ s.size≤32 by omega),Bool.and_false,Bool.false_and])
  clear hz hv h32
  go_enter Tryz.func50,Tryz.ntmps50
  go_wp2_with fail
  go_ret
  exact ⟨by rw [HV.out];rfl,hb⟩
 have d1:decide ((32:Int)<(s.size:Int))=false:=by simp;omega
 have HZ:Hid (s.size≠0∧s.size≤32):=hid ⟨hz,by omega⟩
 have HAT:=hid (fun k (h:k<s.size)=>rd_at s k h)
 have HLT:=hid (fun k=>qcR s.data.toList k)
 clear hz h32 hv
 go_enter Tryz.func50,Tryz.ntmps50
 go_wp2_with fail
 clear se d1
 go_loopw [13] (fun iv wr=>∃ k:Nat,k≤s.size∧iv=.int .i64 (k:Int)∧(∀ i,i<k→32≤rdB s.data.toList i∧rdB s.data.toList i≤126)∧w=wr) (fun iv _=>s.size-(intOf iv).toNat)
 case atStart=>exact ⟨0,by omega,rfl,fun i hi=>by omega,rfl⟩
 case round=>
  obtain ⟨k,hk,rfl,hpre,rfl⟩:=hrel;have HP:=hid hpre;clear hpre
  by_cases hlt:k<s.size
  ·have hd:decide ((k:Int)<(s.size:Int))=true:=by simp;omega
   have hik:(k:Int)<(s.size:Int):=by omega
   have tk:=HAT.out k hlt;have hb256:=HLT.out k;obtain ⟨b,hbb⟩:∃ b,rdB s.data.toList k=b:=⟨_,rfl⟩;rw [hbb] at tk hb256;have HBB:=hid hbb;clear hbb
   by_cases c1:b<32
   ·have d1:decide ((b:Int)<32)=true:=by simp;omega
    have HF:Hid (isNm s=false):=hid (isNm_bad s k hlt (by rw [HBB.out];omega))
    clear HBB HP HAT HLT
    go_wp2_with fail
    go_ret
    exact ⟨by rw [HF.out];rfl,hb⟩
   ·have d1:decide ((b:Int)<32)=false:=by simp;omega
    by_cases c2:126<b
    ·have d2:decide ((126:Int)<(b:Int))=true:=by simp;omega
     have HF:Hid (isNm s=false):=hid (isNm_bad s k hlt (by rw [HBB.out];omega))
     clear HBB HP HAT HLT
     go_wp2_with fail
     go_ret
     exact ⟨by rw [HF.out];rfl,hb⟩
    ·have d2:decide ((126:Int)<(b:Int))=false:=by simp;omega
     have HP2:Hid (∀ i,i<k+1→32≤rdB s.data.toList i∧rdB s.data.toList i≤126):=hid (fun i hi=>by
      by_cases c:i<k
      ·exact HP.out i c
      ·obtain rfl:i=k:=by omega
       rw [HBB.out];omega)
     clear HBB HP HAT HLT
     go_wp2_with fail
     go_roundw
     case rel=>exact ⟨k+1,by omega,by go_num,HP2.out,by first | rfl | trivial⟩
     case measure=>simp [intOf];omega
  ·have hd:decide ((k:Int)<(s.size:Int))=false:=by simp;omega
   obtain rfl:k=s.size:=by omega
   have HG:=hid (isNm_good s HP.out)
   have HF:Hid (isNm s=true):=hid (by rw [HG.out,decide_eq_true (by have:=HZ.out.1;omega),decide_eq_true HZ.out.2];rfl)
   clear HP HAT HLT HG HZ
   go_wp2_with fail
   go_ret
   exact ⟨by rw [HF.out];rfl,hb⟩
set_option maxHeartbeats 8000000 in
theorem pisRight_any (sr:Int) (b:ByteArray) (d e:Int) (f:ByteArray) (w:World) (hs:b.size≤1000000000):Calls Tryz.prog 29 #[.agg #[.int .i64 sr,.string b,.int .i64 d,.int .i64 e,.string f]] w fun ee w'=>ee=.returned (.bool (qbh ⟨sr,b,d,e,f⟩))∧Below w.heap.size w w':=by
 have CN:=hid (fun W=>pisName_any b W hs)
 have CF:=hid (fun W=>qfG d W)
 have CT:=hid (fun W=>qfG e W)
 have HR:Hid (qbh ⟨sr,b,d,e,f⟩=(decide (1≤sr)&&isNm b&&isTm d&&isTm e&&decide (d≤e))):=hid rfl;clear hs
 by_cases h1:1≤sr
 ·have d1:decide (1≤sr)=true:=decide_eq_true h1
  cases hn:isNm b with
  | true=>
   rw [hn] at CN
   cases hf:isTm d with
   | true=>
    rw [hf] at CF
    cases ht:isTm e with
    | true=>
     rw [ht] at CT
     by_cases h2:d≤e
     ·have d2:decide (d≤e)=true:=decide_eq_true h2
      have HV:Hid (qbh ⟨sr,b,d,e,f⟩=true):=hid (by rw [HR.out];simp [d1,hn,hf,ht,d2])
      clear HR hn hf ht h1 h2;have HG:=hid (qag w (.cells #[.int .i64 sr,.string b,.int .i64 d,.int .i64 e,.string f] 28));have hb:=qah w (.cells #[.int .i64 sr,.string b,.int .i64 d,.int .i64 e,.string f] 28);obtain ⟨c0,c1,c2,c3,c4⟩:=qal HG.out
      go_enter Tryz.func29,Tryz.ntmps29
      go_wp2_with fail
      generalize (w.alloc _)=W0 at *;generalize hgg:w.heap.size=g at *;have HGG:=hid hgg;clear hgg
      refine (CN.out _).mono ?_
      rintro ee V0 ⟨rfl,bk⟩;replace hb:=hb.trans (bk.mono (Nat.le_of_lt (qab HG.out)));replace HG:=hid (qaa bk (qab HG.out) HG.out);clear bk CN c0 c1 c2 c3 c4;obtain ⟨c0,c1,c2,c3,c4⟩:=qal HG.out
      go_wp2_with fail
      refine (CF.out _).mono ?_
      rintro ee V1 ⟨rfl,bk⟩;replace hb:=hb.trans (bk.mono (Nat.le_of_lt (qab HG.out)));replace HG:=hid (qaa bk (qab HG.out) HG.out);clear bk CF c0 c1 c2 c3 c4;obtain ⟨c0,c1,c2,c3,c4⟩:=qal HG.out
      go_wp2_with fail
      refine (CT.out _).mono ?_
      rintro ee V2 ⟨rfl,bk⟩;replace hb:=hb.trans (bk.mono (Nat.le_of_lt (qab HG.out)));replace HG:=hid (qaa bk (qab HG.out) HG.out);clear bk CT c0 c1 c2 c3 c4;obtain ⟨c0,c1,c2,c3,c4⟩:=qal HG.out
      go_wp2_with fail
      go_ret
      exact ⟨by rw [HV.out];rfl,by first | exact hb | (rw [HGG.out];exact hb)⟩
     ·have d2:decide (d≤e)=false:=decide_eq_false h2
      have HV:Hid (qbh ⟨sr,b,d,e,f⟩=false):=hid (by rw [HR.out];simp [d1,hn,hf,ht,d2])
      clear HR hn hf ht h1 h2;have HG:=hid (qag w (.cells #[.int .i64 sr,.string b,.int .i64 d,.int .i64 e,.string f] 28));have hb:=qah w (.cells #[.int .i64 sr,.string b,.int .i64 d,.int .i64 e,.string f] 28);obtain ⟨c0,c1,c2,c3,c4⟩:=qal HG.out
      go_enter Tryz.func29,Tryz.ntmps29
      go_wp2_with fail
      generalize (w.alloc _)=W0 at *;generalize hgg:w.heap.size=g at *;have HGG:=hid hgg;clear hgg
      refine (CN.out _).mono ?_
      rintro ee V0 ⟨rfl,bk⟩;replace hb:=hb.trans (bk.mono (Nat.le_of_lt (qab HG.out)));replace HG:=hid (qaa bk (qab HG.out) HG.out);clear bk CN c0 c1 c2 c3 c4;obtain ⟨c0,c1,c2,c3,c4⟩:=qal HG.out
      go_wp2_with fail
      refine (CF.out _).mono ?_
      rintro ee V1 ⟨rfl,bk⟩;replace hb:=hb.trans (bk.mono (Nat.le_of_lt (qab HG.out)));replace HG:=hid (qaa bk (qab HG.out) HG.out);clear bk CF c0 c1 c2 c3 c4;obtain ⟨c0,c1,c2,c3,c4⟩:=qal HG.out
      go_wp2_with fail
      refine (CT.out _).mono ?_
      rintro ee V2 ⟨rfl,bk⟩;replace hb:=hb.trans (bk.mono (Nat.le_of_lt (qab HG.out)));replace HG:=hid (qaa bk (qab HG.out) HG.out);clear bk CT c0 c1 c2 c3 c4;obtain ⟨c0,c1,c2,c3,c4⟩:=qal HG.out
      go_wp2_with fail
      go_ret
      exact ⟨by rw [HV.out];rfl,by first | exact hb | (rw [HGG.out];exact hb)⟩
    | false=>
     rw [ht] at CT
     have HV:Hid (qbh ⟨sr,b,d,e,f⟩=false):=hid (by rw [HR.out];simp [d1,hn,hf,ht])
     clear HR hn hf ht h1;have HG:=hid (qag w (.cells #[.int .i64 sr,.string b,.int .i64 d,.int .i64 e,.string f] 28));have hb:=qah w (.cells #[.int .i64 sr,.string b,.int .i64 d,.int .i64 e,.string f] 28);obtain ⟨c0,c1,c2,c3,c4⟩:=qal HG.out
     go_enter Tryz.func29,Tryz.ntmps29
     go_wp2_with fail
     generalize (w.alloc _)=W0 at *;generalize hgg:w.heap.size=g at *;have HGG:=hid hgg;clear hgg
     refine (CN.out _).mono ?_
     rintro ee V0 ⟨rfl,bk⟩;replace hb:=hb.trans (bk.mono (Nat.le_of_lt (qab HG.out)));replace HG:=hid (qaa bk (qab HG.out) HG.out);clear bk CN c0 c1 c2 c3 c4;obtain ⟨c0,c1,c2,c3,c4⟩:=qal HG.out
     go_wp2_with fail
     refine (CF.out _).mono ?_
     rintro ee V1 ⟨rfl,bk⟩;replace hb:=hb.trans (bk.mono (Nat.le_of_lt (qab HG.out)));replace HG:=hid (qaa bk (qab HG.out) HG.out);clear bk CF c0 c1 c2 c3 c4;obtain ⟨c0,c1,c2,c3,c4⟩:=qal HG.out
     go_wp2_with fail
     refine (CT.out _).mono ?_
     rintro ee V2 ⟨rfl,bk⟩;replace hb:=hb.trans (bk.mono (Nat.le_of_lt (qab HG.out)));replace HG:=hid (qaa bk (qab HG.out) HG.out);clear bk CT c0 c1 c2 c3 c4;obtain ⟨c0,c1,c2,c3,c4⟩:=qal HG.out
     go_wp2_with fail
     go_ret
     exact ⟨by rw [HV.out];rfl,by first | exact hb | (rw [HGG.out];exact hb)⟩
   | false=>
    rw [hf] at CF
    have HV:Hid (qbh ⟨sr,b,d,e,f⟩=false):=hid (by rw [HR.out];simp [d1,hn,hf])
    clear HR hn hf h1;have HG:=hid (qag w (.cells #[.int .i64 sr,.string b,.int .i64 d,.int .i64 e,.string f] 28));have hb:=qah w (.cells #[.int .i64 sr,.string b,.int .i64 d,.int .i64 e,.string f] 28);obtain ⟨c0,c1,c2,c3,c4⟩:=qal HG.out
    go_enter Tryz.func29,Tryz.ntmps29
    go_wp2_with fail
    generalize (w.alloc _)=W0 at *;generalize hgg:w.heap.size=g at *;have HGG:=hid hgg;clear hgg
    refine (CN.out _).mono ?_
    rintro ee V0 ⟨rfl,bk⟩;replace hb:=hb.trans (bk.mono (Nat.le_of_lt (qab HG.out)));replace HG:=hid (qaa bk (qab HG.out) HG.out);clear bk CN c0 c1 c2 c3 c4;obtain ⟨c0,c1,c2,c3,c4⟩:=qal HG.out
    go_wp2_with fail
    refine (CF.out _).mono ?_
    rintro ee V1 ⟨rfl,bk⟩;replace hb:=hb.trans (bk.mono (Nat.le_of_lt (qab HG.out)));replace HG:=hid (qaa bk (qab HG.out) HG.out);clear bk CF c0 c1 c2 c3 c4;obtain ⟨c0,c1,c2,c3,c4⟩:=qal HG.out
    go_wp2_with fail
    go_ret
    exact ⟨by rw [HV.out];rfl,by first | exact hb | (rw [HGG.out];exact hb)⟩
  | false=>
   rw [hn] at CN
   have HV:Hid (qbh ⟨sr,b,d,e,f⟩=false):=hid (by rw [HR.out];simp [d1,hn])
   clear HR hn h1;have HG:=hid (qag w (.cells #[.int .i64 sr,.string b,.int .i64 d,.int .i64 e,.string f] 28));have hb:=qah w (.cells #[.int .i64 sr,.string b,.int .i64 d,.int .i64 e,.string f] 28);obtain ⟨c0,c1,c2,c3,c4⟩:=qal HG.out
   go_enter Tryz.func29,Tryz.ntmps29
   go_wp2_with fail
   generalize (w.alloc _)=W0 at *;generalize hgg:w.heap.size=g at *;have HGG:=hid hgg;clear hgg
   refine (CN.out _).mono ?_
   rintro ee V0 ⟨rfl,bk⟩;replace hb:=hb.trans (bk.mono (Nat.le_of_lt (qab HG.out)));replace HG:=hid (qaa bk (qab HG.out) HG.out);clear bk CN c0 c1 c2 c3 c4;obtain ⟨c0,c1,c2,c3,c4⟩:=qal HG.out
   go_wp2_with fail
   go_ret
   exact ⟨by rw [HV.out];rfl,by first | exact hb | (rw [HGG.out];exact hb)⟩
 ·have d1:decide (1≤sr)=false:=decide_eq_false h1
  have HV:Hid (qbh ⟨sr,b,d,e,f⟩=false):=hid (by rw [HR.out];simp [d1])
  clear HR h1;have HG:=hid (qag w (.cells #[.int .i64 sr,.string b,.int .i64 d,.int .i64 e,.string f] 28));have hb:=qah w (.cells #[.int .i64 sr,.string b,.int .i64 d,.int .i64 e,.string f] 28);obtain ⟨c0,c1,c2,c3,c4⟩:=qal HG.out
  go_enter Tryz.func29,Tryz.ntmps29
  go_wp2_with fail
  generalize (w.alloc _)=W0 at *;generalize hgg:w.heap.size=g at *;have HGG:=hid hgg;clear hgg
  go_ret
  exact ⟨by rw [HV.out];rfl,by first | exact hb | (rw [HGG.out];exact hb)⟩
end
section
open Go.RowKit Go.Sort
structure SignP (F:SignF) (Q:World→Prop):Prop where
 step:∀ (w w':World),Q w→Below w.heap.size w w'→Q w'
 pow:∀ (w:World),Q w→PowQ w
 pub:∀ (s:ByteArray) (w:World),Q w→Calls Tryz.prog 22 #[.string s] w fun e w'=>e=.returned (.tuple #[.string (F.pub s),.int .i64 (sdE s)])∧Below w.heap.size w w'
 sgn:∀ (s t:ByteArray) (w:World),t.size≤1000000→Q w→Calls Tryz.prog 31 #[.string s,.string t] w fun e w'=>e=.returned (.tuple #[.string (F.sgn s t),.int .i64 (sdE s)])∧Below w.heap.size w w'
theorem pinnerZ_any (sr:Int) (b:ByteArray) (d e:Int) (f:ByteArray) (w:World) (ha0:-9223372036854775808≤sr) (ha1:sr≤9223372036854775807) (hr:qbh ⟨sr,b,d,e,f⟩=true) (hs:b.size≤1000) (hf:f.size≤1000) (hQ:PowQ w) (k:ByteArray) (hk:k.size≤1000) :
  Calls Tryz.prog 30 #[.agg #[.int .i64 sr,.string b,.int .i64 d,.int .i64 e,.string k]] w fun ee w'=>ee=.returned (.string (innB ⟨sr,b,d,e,k⟩))∧Below w.heap.size w w':=by
 obtain ⟨_,_,r3,r4,_⟩:=qe5 _ hr;obtain ⟨t1,t2⟩:=(qc0 _).1 r3;obtain ⟨t3,t4⟩:=(qc0 _).1 r4
 simp only at t1 t2 t3 t4
 obtain ⟨d',rfl⟩:∃ n:Nat,d=(n:Int):=⟨d.toNat,by omega⟩
 obtain ⟨e',rfl⟩:∃ n:Nat,e=(n:Int):=⟨e.toNat,by omega⟩
 exact pinner_any sr b d' e' k w ha0 ha1 (by omega) (by omega) hs hk hQ
set_option maxHeartbeats 16000000 in
theorem pmake_any {Q:World→Prop} (F:SignF) (R:SignP F Q) (sr:Int) (b:ByteArray) (d e:Int) (f seed:ByteArray) (w:World) (ha0:-9223372036854775808≤sr) (ha1:sr≤9223372036854775807) (hd0:-9223372036854775808≤d) (hd1:d≤9223372036854775807) (he0:-9223372036854775808≤e) (he1:e≤9223372036854775807) (hs:b.size≤1000) (hf:f.size≤1000) (hQ:Q w) :
  Calls Tryz.prog 14 #[.agg #[.int .i64 sr,.string b,.int .i64 d,.int .i64 e,.string f],.string seed] w fun ee w'=>ee=.returned (.tuple #[.string (makX F ⟨sr,b,d,e,f⟩ seed),.int .i64 (makE F ⟨sr,b,d,e,f⟩ seed)])∧Below w.heap.size w w':=by
 have CR:=hid (fun W=>pisRight_any sr b d e f W (by omega))
 have CP:=hid (fun W q=>R.pub seed W q)
 have HG:=hid (show (w.alloc (.cells #[.int .i64 sr,.string b,.int .i64 d,.int .i64 e,.string f] 28)).heap[w.heap.size]?=some (.cells (cRow sr b d e f) 28) from qag w _)
 have hb:=qah w (.cells #[.int .i64 sr,.string b,.int .i64 d,.int .i64 e,.string f] 28);have HST:=hid R.step;have HQw:=hid hQ;have HQ:=hid (HST.out _ _ hQ hb);clear hQ
 cases hr:qbh ⟨sr,b,d,e,f⟩ with
 | false=>
  rw [hr] at CR
  have HV:=hid (qeV F ⟨sr,b,d,e,f⟩ seed 1 (by rw [makE,hr,if_neg Bool.false_ne_true]) (by decide))
  clear hr ha0 ha1 hd0 hd1 he0 he1 hs hf R CP
  go_enter Tryz.func14,Tryz.ntmps14
  go_wp2_with (with_reducible refine wpList_load_row rfl 28 _ rfl w.heap.size rfl 28 _ (0,0) _ HG.out Tryz.underlying28 rfl (qaD _ _ _ _ _) ?_)
  generalize (w.alloc _)=W0 at *;generalize hBB:w.heap.size=g at *;have HBB:=hid hBB;clear hBB
  refine (CR.out _).mono ?_
  rintro ee V1 ⟨rfl,bk⟩;replace hb:=hb.trans (bk.mono (Nat.le_of_lt (qab HG.out)));replace HG:=hid (qaa bk (qab HG.out) HG.out);replace HQ:=hid (HST.out _ _ HQ.out bk);clear bk CR
  go_wp2_with fail
  go_ret2
  exact ⟨by rw [HV.out.1,HV.out.2];rfl,by rw [HBB.out];exact hb⟩
 | true=>
  rw [hr] at CR
  by_cases h32:seed.size=32
  ·have hsd:sdE seed=0:=if_pos h32
   rw [hsd] at CP
   by_cases hk:f.size=0∨f=F.pub seed
   ·have HV0:=mak_good F ⟨sr,b,d,e,f⟩ seed (by rw [makE,hr,if_pos rfl,if_pos];rw [keyOk,decide_eq_true h32,Bool.true_and];simpa using hk)
    have hp:=F.hp seed h32;have hg:=F.hg seed (innB (qbv ⟨sr,b,d,e,f⟩ (F.pub seed))) h32;have hin:=(qc1 (qbv ⟨sr,b,d,e,f⟩ (F.pub seed))).2.2.2.2.2.2
    have hin2:(innB (qbv ⟨sr,b,d,e,f⟩ (F.pub seed))).size≤10000:=by
     have e1:(qbv ⟨sr,b,d,e,f⟩ (F.pub seed)).nm=b:=rfl;have e2:(qbv ⟨sr,b,d,e,f⟩ (F.pub seed)).key=F.pub seed:=rfl;rw [e1,e2] at hin
     omega
    have CI:=hid (fun W q=>pinnerZ_any sr b d e f W ha0 ha1 hr hs hf (R.pow W q) (F.pub seed) (by omega))
    have CS:=hid (fun W q=>R.sgn seed (innB (qbv ⟨sr,b,d,e,f⟩ (F.pub seed))) W (by omega) q)
    have CW:=hid (fun W=>qe7 (innB (qbv ⟨sr,b,d,e,f⟩ (F.pub seed))) (F.sgn seed (innB (qbv ⟨sr,b,d,e,f⟩ (F.pub seed)))) W (by omega) (by omega))
    rw [show (⟨sr,b,d,e,F.pub seed⟩:CertF)=qbv ⟨sr,b,d,e,f⟩ (F.pub seed) from rfl] at CI
    have HV:=hid HV0;have se:=qdm f;have sq:=str_eq f (F.pub seed)
    have q1:(f.toList.isEmpty=true∧(f.toList==[])=true)∨(f.toList.isEmpty=false∧(f.toList==[])=false∧(f.toList==(F.pub seed).toList)=true):=by
     rcases Nat.eq_zero_or_pos f.size with h0 | h0
     ·left;rw [se.1,se.2,decide_eq_true h0];exact ⟨rfl,rfl⟩
     ·right
      rcases hk with hk | hk
      ·omega
      ·rw [se.1,se.2,sq,decide_eq_false (by omega),decide_eq_true hk];exact ⟨rfl,rfl,rfl⟩
    clear hr ha0 ha1 hd0 hd1 he0 he1 hs hf R hp hg hin hin2 hsd h32 hk se sq HV0;generalize whoB (innB (qbv ⟨sr,b,d,e,f⟩ (F.pub seed))) (F.sgn seed (innB (qbv ⟨sr,b,d,e,f⟩ (F.pub seed))))=wh at *;generalize F.sgn seed (innB (qbv ⟨sr,b,d,e,f⟩ (F.pub seed)))=sg at *;generalize innB (qbv ⟨sr,b,d,e,f⟩ (F.pub seed))=inn at *;generalize F.pub seed=pk at *
    rcases q1 with ⟨qa,qb⟩ | ⟨qa,qb,qc⟩
    ·go_enter Tryz.func14,Tryz.ntmps14
     go_wp2_with (with_reducible refine wpList_load_row rfl 28 _ rfl w.heap.size rfl 28 _ (0,0) _ HG.out Tryz.underlying28 rfl (qaD _ _ _ _ _) ?_)
     generalize (w.alloc _)=W0 at *;generalize hBB:w.heap.size=g at *;have HBB:=hid hBB;clear hBB
     refine (CR.out _).mono ?_
     rintro ee V1 ⟨rfl,bk⟩;replace hb:=hb.trans (bk.mono (Nat.le_of_lt (qab HG.out)));replace HG:=hid (qaa bk (qab HG.out) HG.out);replace HQ:=hid (HST.out _ _ HQ.out bk);clear bk CR
     go_wp2_with fail
     refine (CP.out _ HQ.out).mono ?_
     rintro ee V2 ⟨rfl,bk⟩;replace hb:=hb.trans (bk.mono (Nat.le_of_lt (qab HG.out)));replace HG:=hid (qaa bk (qab HG.out) HG.out);replace HQ:=hid (HST.out _ _ HQ.out bk);clear bk CP;obtain ⟨c0,c1,c2,c3,c4⟩:=qal HG.out;have fc:=frozen_of_row V2 g 4 _ _ HG.out;have HG2:=hid (cell_set (i:=4) (v:=.string pk) HG.out)
     rw [show (cRow sr b d e f).setIfInBounds 4 (.string pk)=cRow sr b d e pk from rfl] at HG2
     have hb2:Below g w (V2.setCell ⟨g,4,none⟩ (.string pk)):=hb.setCell (by simp) _
     have HQ2:=hid (HST.out _ _ HQw.out (by rw [HBB.out];exact hb2))
     clear HG c0 c1 c2 c3;have HG:=HG2;clear HQ;have HQ:=HQ2;clear HQ2;clear HG2
     go_wp2_with (with_reducible refine wpList_load_row rfl 28 _ rfl g rfl 28 _ (0,0) _ HG.out Tryz.underlying28 rfl (qaD _ _ _ _ _) ?_)
     clear c4 fc hb;generalize (World.setCell _ _ _)=V3 at *;have hb:=hb2;clear hb2
     refine (CI.out _ HQ.out).mono ?_
     rintro ee V4 ⟨rfl,bk⟩;replace hb:=hb.trans (bk.mono (Nat.le_of_lt (qab HG.out)));replace HG:=hid (qaa bk (qab HG.out) HG.out);replace HQ:=hid (HST.out _ _ HQ.out bk);clear bk CI
     go_wp2_with fail
     refine (CS.out _ HQ.out).mono ?_
     rintro ee V5 ⟨rfl,bk⟩;replace hb:=hb.trans (bk.mono (Nat.le_of_lt (qab HG.out)));replace HG:=hid (qaa bk (qab HG.out) HG.out);replace HQ:=hid (HST.out _ _ HQ.out bk);clear bk CS
     go_wp2_with fail
     refine (CW.out _).mono ?_
     rintro ee V6 ⟨rfl,bk⟩;replace hb:=hb.trans (bk.mono (Nat.le_of_lt (qab HG.out)));replace HG:=hid (qaa bk (qab HG.out) HG.out);replace HQ:=hid (HST.out _ _ HQ.out bk);clear bk CW
     go_wp2_with fail
     go_ret2
     exact ⟨by rw [HV.out.1,HV.out.2];rfl,by rw [HBB.out];exact hb⟩
    ·go_enter Tryz.func14,Tryz.ntmps14
     go_wp2_with (with_reducible refine wpList_load_row rfl 28 _ rfl w.heap.size rfl 28 _ (0,0) _ HG.out Tryz.underlying28 rfl (qaD _ _ _ _ _) ?_)
     generalize (w.alloc _)=W0 at *;generalize hBB:w.heap.size=g at *;have HBB:=hid hBB;clear hBB
     refine (CR.out _).mono ?_
     rintro ee V1 ⟨rfl,bk⟩;replace hb:=hb.trans (bk.mono (Nat.le_of_lt (qab HG.out)));replace HG:=hid (qaa bk (qab HG.out) HG.out);replace HQ:=hid (HST.out _ _ HQ.out bk);clear bk CR
     go_wp2_with fail
     refine (CP.out _ HQ.out).mono ?_
     rintro ee V2 ⟨rfl,bk⟩;replace hb:=hb.trans (bk.mono (Nat.le_of_lt (qab HG.out)));replace HG:=hid (qaa bk (qab HG.out) HG.out);replace HQ:=hid (HST.out _ _ HQ.out bk);clear bk CP;obtain ⟨c0,c1,c2,c3,c4⟩:=qal HG.out;have fc:=frozen_of_row V2 g 4 _ _ HG.out;have HG2:=hid (cell_set (i:=4) (v:=.string pk) HG.out)
     rw [show (cRow sr b d e f).setIfInBounds 4 (.string pk)=cRow sr b d e pk from rfl] at HG2
     have hb2:Below g w (V2.setCell ⟨g,4,none⟩ (.string pk)):=hb.setCell (by simp) _
     have HQ2:=hid (HST.out _ _ HQw.out (by rw [HBB.out];exact hb2))
     clear HG c0 c1 c2 c3;have HG:=HG2;clear HQ;have HQ:=HQ2;clear HQ2;clear HG2
     go_wp2_with (with_reducible refine wpList_load_row rfl 28 _ rfl g rfl 28 _ (0,0) _ HG.out Tryz.underlying28 rfl (qaD _ _ _ _ _) ?_)
     clear c4 fc hb;generalize (World.setCell _ _ _)=V3 at *;have hb:=hb2;clear hb2
     refine (CI.out _ HQ.out).mono ?_
     rintro ee V4 ⟨rfl,bk⟩;replace hb:=hb.trans (bk.mono (Nat.le_of_lt (qab HG.out)));replace HG:=hid (qaa bk (qab HG.out) HG.out);replace HQ:=hid (HST.out _ _ HQ.out bk);clear bk CI
     go_wp2_with fail
     refine (CS.out _ HQ.out).mono ?_
     rintro ee V5 ⟨rfl,bk⟩;replace hb:=hb.trans (bk.mono (Nat.le_of_lt (qab HG.out)));replace HG:=hid (qaa bk (qab HG.out) HG.out);replace HQ:=hid (HST.out _ _ HQ.out bk);clear bk CS
     go_wp2_with fail
     refine (CW.out _).mono ?_
     rintro ee V6 ⟨rfl,bk⟩;replace hb:=hb.trans (bk.mono (Nat.le_of_lt (qab HG.out)));replace HG:=hid (qaa bk (qab HG.out) HG.out);replace HQ:=hid (HST.out _ _ HQ.out bk);clear bk CW
     go_wp2_with fail
     go_ret2
     exact ⟨by rw [HV.out.1,HV.out.2];rfl,by rw [HBB.out];exact hb⟩
   ·have HV:=hid (qeV F ⟨sr,b,d,e,f⟩ seed 21 (by rw [makE,hr,if_pos rfl,if_neg];rw [keyOk,decide_eq_true h32,Bool.true_and];simpa using hk) (by decide))
    have qa:f.toList.isEmpty=false:=by rw [(qdm f).1];exact decide_eq_false (fun h=>hk (.inl h))
    have qb:(f.toList==[])=false:=by rw [(qdm f).2];exact decide_eq_false (fun h=>hk (.inl h))
    have qc:(f.toList==(F.pub seed).toList)=false:=by rw [str_eq];exact decide_eq_false (fun h=>hk (.inr h))
    clear hr ha0 ha1 hd0 hd1 he0 he1 hs hf R hsd h32 hk;generalize F.pub seed=pk at *
    go_enter Tryz.func14,Tryz.ntmps14
    go_wp2_with (with_reducible refine wpList_load_row rfl 28 _ rfl w.heap.size rfl 28 _ (0,0) _ HG.out Tryz.underlying28 rfl (qaD _ _ _ _ _) ?_)
    generalize (w.alloc _)=W0 at *;generalize hBB:w.heap.size=g at *;have HBB:=hid hBB;clear hBB
    refine (CR.out _).mono ?_
    rintro ee V1 ⟨rfl,bk⟩;replace hb:=hb.trans (bk.mono (Nat.le_of_lt (qab HG.out)));replace HG:=hid (qaa bk (qab HG.out) HG.out);replace HQ:=hid (HST.out _ _ HQ.out bk);clear bk CR
    go_wp2_with fail
    refine (CP.out _ HQ.out).mono ?_
    rintro ee V2 ⟨rfl,bk⟩;replace hb:=hb.trans (bk.mono (Nat.le_of_lt (qab HG.out)));replace HG:=hid (qaa bk (qab HG.out) HG.out);replace HQ:=hid (HST.out _ _ HQ.out bk);clear bk CP;obtain ⟨c0,c1,c2,c3,c4⟩:=qal HG.out
    go_wp2_with fail
    go_ret2
    exact ⟨by rw [HV.out.1,HV.out.2];rfl,by rw [HBB.out];exact hb⟩
  ·have hsd:sdE seed=21:=if_neg h32
   rw [hsd] at CP
   have HV:=hid (qeV F ⟨sr,b,d,e,f⟩ seed 21 (by rw [makE,hr,if_pos rfl,if_neg];rw [keyOk,decide_eq_false h32,Bool.false_and];exact Bool.false_ne_true) (by decide))
   clear hr ha0 ha1 hd0 hd1 he0 he1 hs hf R hsd h32;generalize F.pub seed=pk at *
   go_enter Tryz.func14,Tryz.ntmps14
   go_wp2_with (with_reducible refine wpList_load_row rfl 28 _ rfl w.heap.size rfl 28 _ (0,0) _ HG.out Tryz.underlying28 rfl (qaD _ _ _ _ _) ?_)
   generalize (w.alloc _)=W0 at *;generalize hBB:w.heap.size=g at *;have HBB:=hid hBB;clear hBB
   refine (CR.out _).mono ?_
   rintro ee V1 ⟨rfl,bk⟩;replace hb:=hb.trans (bk.mono (Nat.le_of_lt (qab HG.out)));replace HG:=hid (qaa bk (qab HG.out) HG.out);replace HQ:=hid (HST.out _ _ HQ.out bk);clear bk CR
   go_wp2_with fail
   refine (CP.out _ HQ.out).mono ?_
   rintro ee V2 ⟨rfl,bk⟩;replace hb:=hb.trans (bk.mono (Nat.le_of_lt (qab HG.out)));replace HG:=hid (qaa bk (qab HG.out) HG.out);replace HQ:=hid (HST.out _ _ HQ.out bk);clear bk CP
   go_wp2_with fail
   go_ret2
   exact ⟨by rw [HV.out.1,HV.out.2];rfl,by rw [HBB.out];exact hb⟩
end
section
open Go.RowKit Go.Sort
theorem read_of (s:ByteArray) (c:CertF) (sg:ByteArray) (h1:-9223372036854775808≤c.ser) (h2:c.ser≤9223372036854775807) (h:okC s=true→parT s=(c,sg)) :
  okC s=(qbh c&&(decide (c.key.size=32)&&(decide (sg.size=64)&&decide (whoB (innB c) sg=s))))∧((qbh c&&(decide (c.key.size=32)&&(decide (sg.size=64)&&decide (whoB (innB c) sg=s))))=true→parT s=(c,sg)):=by
 have hi:=ok_iff s c sg h1 h2
 have hq:((qbh c&&(decide (c.key.size=32)&&(decide (sg.size=64)&&decide (whoB (innB c) sg=s))))=true)↔(qbh c=true∧c.key.size=32∧sg.size=64∧whoB (innB c) sg=s):=by simp
 refine ⟨?_,fun hx=>(hi.1 (hq.1 hx)).2⟩
 rw [Bool.eq_iff_iff,hq]
 exact ⟨fun hx=>hi.2 ⟨hx,h hx⟩,fun hx=>(hi.1 hx).1⟩
set_option maxHeartbeats 16000000 in
theorem pread_any {Q:World→Prop} (hst:∀ (w w':World),Q w→Below w.heap.size w w'→Q w') (hpw:∀ (w:World),Q w→PowQ w) (F:SignF) (s:ByteArray) (w:World) (hQ:Q w)
  (hv:okC s=true→∀ W,Q W→Calls Tryz.prog 39 #[.string (parT s).1.key,.string (innB (parT s).1),.string (parT s).2] W fun ee w'=>ee=.returned (.int .i64 (F.ver (parT s).1.key (innB (parT s).1) (parT s).2))∧Below W.heap.size W w') :
  Calls Tryz.prog 16 #[.string s] w fun ee w'=>ee=.returned (.tuple #[.agg (cerL (reC F s)),.int .i64 (reE F s)])∧Below w.heap.size w w':=by
 obtain ⟨hz,hi⟩:=zero_of_info infoCert;have HR:=hid (qag w (.cells (cRow 0 ⟨#[]⟩ 0 0 ⟨#[]⟩) 28));have hb:=qah w (.cells (cRow 0 ⟨#[]⟩ 0 0 ⟨#[]⟩) 28);have HST:=hid hst;have HQ:=hid (hst _ _ hQ hb);clear hi hQ
 by_cases hbig:1000<s.size
 ·have d1:decide ((1000:Int)<(s.size:Int))=true:=by simp;omega
  have HV:=hid (re_bad F s 13 (by rw [reE,if_pos hbig]) (by decide))
  clear hbig hv hst hpw
  go_enter Tryz.func16,Tryz.ntmps16
  go_wp2_with (with_reducible refine wpList_store_row rfl 28 _ _ rfl w.heap.size (cRow 0 ⟨#[]⟩ 0 0 ⟨#[]⟩) rfl rfl 28 _ HR.out (qaD _ _ _ _ _) rfl (qdc _ _ _ _ _) ?_)
  exact bodyPost_ret (qbF (by rfl) _ _ w.heap.size 28 _ (0,0) _ rfl (setRow_heap _ _ _ _ _ _ HR.out) Tryz.underlying28 rfl (qaD _ _ _ _ _)) rfl ⟨by rw [HV.out.1,HV.out.2];rfl,by exact below_setRow hb (Nat.le_refl _) _⟩
 have d1:decide ((1000:Int)<(s.size:Int))=false:=by simp;omega
 have CP:=hid (fun W q=>pfields_any s W (by omega) (hpw W q))
 have HRE:Hid (reE F s=if okC s=true then (if F.ver (parT s).1.key (innB (parT s).1) (parT s).2=0 then 0 else 22) else 11):=hid (by rw [reE,if_neg hbig])
 have HBAD:=hid (fun q h hq=>re_bad F s q h hq)
 have HGOOD:=hid (fun h=>re_good F s h)
 have HVER:=hid hv;have HPW:=hid hpw;clear hbig hv hst hpw
 go_enter Tryz.func16,Tryz.ntmps16
 go_wp2_with fail
 generalize (w.alloc _)=W0 at *;generalize hBB:w.heap.size=B at *;have HBB:=hid hBB;clear hBB
 refine (CP.out _ HQ.out).mono ?_
 rintro ee W1 ⟨sr,b,d,e,f,sg,rfl,⟨hb1,hb2,hb3,hb4,hb5,hb6,hb7⟩,hpar,bk⟩;obtain ⟨hok,hpt⟩:=read_of s ⟨sr,b,(d:Int),(e:Int),f⟩ sg hb1 hb2 hpar
 have CR:=hid (fun W=>pisRight_any sr b (d:Int) (e:Int) f W (by omega))
 have CI:=hid (fun W q=>pinner_any sr b d e f W hb1 hb2 hb3 hb4 hb5 hb6 (HPW.out W q))
 have hin:=(qc1 ⟨sr,b,(d:Int),(e:Int),f⟩).2.2.2.2.2.2
 simp only at hin hok hpt
 have CW:=hid (fun W=>qe7 (innB ⟨sr,b,(d:Int),(e:Int),f⟩) sg W (by omega) (by omega))
 have HOK:=hid hok;have HPT:=hid hpt;clear hb1 hb2 hb3 hb4 hb5 hb6 hb7 hin hpar hok hpt CP HPW;generalize (d:Int)=d at *;generalize (e:Int)=e at *;replace hb:=hb.trans (bk.mono (Nat.le_of_lt (qab HR.out)));replace HR:=hid (qaa bk (qab HR.out) HR.out);replace HQ:=hid (HST.out _ _ HQ.out bk);clear bk;have HN:=hid (qag W1 (.cells (cRow 0 ⟨#[]⟩ 0 0 ⟨#[]⟩) 28));have HG:=hid (setRow_heap _ W1.heap.size _ (cRow sr b d e f) _ _ HN.out);have bk2:=below_setRow (qah W1 (.cells (cRow 0 ⟨#[]⟩ 0 0 ⟨#[]⟩) 28)) (Nat.le_refl _) (cRow sr b d e f);have HR2:=hid (qaa bk2 (qab HR.out) HR.out);have hb2:=hb.trans (bk2.mono (Nat.le_of_lt (qab HR.out)));have HQ2:=hid (HST.out _ _ HQ.out bk2);have HNE:Hid (B<W1.heap.size):=hid (qab HR.out);clear bk2 HR hb HQ;have HR:=HR2;have hb:=hb2;have HQ:=HQ2;clear HR2 hb2 HQ2
 go_wp2_with (first | (with_reducible refine wpList_store_row rfl 28 _ _ rfl W1.heap.size (cRow sr b d e f) rfl rfl 28 _ HN.out (qaD _ _ _ _ _) rfl (qdc _ _ _ _ _) ?_) | (with_reducible refine wpList_load_row rfl 28 _ rfl W1.heap.size rfl 28 _ (0,0) _ HG.out Tryz.underlying28 rfl (qaD _ _ _ _ _) ?_))
 clear HN hz;generalize (World.setRow (World.alloc _ _) _ _)=W2 at *;generalize W1.heap.size=g at *
 cases hr:qbh ⟨sr,b,d,e,f⟩ with
 | false=>
  rw [hr] at CR
  have HV:=hid (HBAD.out 11 (by rw [HRE.out,HOK.out,hr,Bool.false_and,if_neg Bool.false_ne_true]) (by decide))
  clear hr HRE HBAD HGOOD HOK HPT CI CW HVER
  refine (CR.out _).mono ?_
  rintro ee W3 ⟨rfl,bk⟩;replace hb:=hb.trans (bk.mono (Nat.le_of_lt (qab HR.out)));replace HR:=hid (qaa bk (qab HR.out) HR.out);replace HG:=hid (qaa bk (qab HG.out) HG.out);replace HQ:=hid (HST.out _ _ HQ.out bk);clear bk;obtain ⟨c0,c1,c2,c3,c4⟩:=qal HG.out
  go_wp2_with (with_reducible refine wpList_store_row rfl 28 _ _ rfl B (cRow 0 ⟨#[]⟩ 0 0 ⟨#[]⟩) rfl rfl 28 _ HR.out (qaD _ _ _ _ _) rfl (qdc _ _ _ _ _) ?_)
  exact bodyPost_ret (qbF (by rfl) _ _ B 28 _ (0,0) _ rfl (setRow_heap _ _ _ _ _ _ HR.out) Tryz.underlying28 rfl (qaD _ _ _ _ _)) rfl ⟨by rw [HV.out.1,HV.out.2];rfl,by rw [HBB.out];exact below_setRow hb (Nat.le_refl _) _⟩
 | true=>
  rw [hr] at CR
  by_cases hk:f.size=32
  ·have d2:((f.size:Int) != 32)=false:=by rw [hk];rfl
   by_cases hg:sg.size=64
   ·have d3:((sg.size:Int) != 64)=false:=by rw [hg];rfl
    have hse:=str_eq (whoB (innB ⟨sr,b,d,e,f⟩) sg) s
    by_cases hw:whoB (innB ⟨sr,b,d,e,f⟩) sg=s
    ·have hok:okC s=true:=by rw [HOK.out,hr,decide_eq_true hk,decide_eq_true hg,decide_eq_true hw];rfl
     have hpt:=HPT.out (by rw [hr,decide_eq_true hk,decide_eq_true hg,decide_eq_true hw];rfl)
     have hre:=HRE.out;have hver:=HVER.out hok;have hgood:=HGOOD.out;rw [hok,if_pos rfl] at hre;rw [hpt] at hre hver hgood
     simp only at hre hver hgood
     rw [decide_eq_true hw] at hse;have CV:=hid hver;clear hok hr hk hg hw HOK HPT HRE HVER HGOOD hpt hver;generalize whoB (innB ⟨sr,b,d,e,f⟩) sg=wh at *;generalize hII:innB ⟨sr,b,d,e,f⟩=inn at *;clear hII
     by_cases hv:F.ver f inn sg=0
     ·have HV:=hid (hgood (by rw [hre,if_pos hv]))
      rw [hv] at CV;clear hre HBAD hgood hv
      refine (CR.out _).mono ?_
      rintro ee W3 ⟨rfl,bk⟩;replace hb:=hb.trans (bk.mono (Nat.le_of_lt (qab HR.out)));replace HR:=hid (qaa bk (qab HR.out) HR.out);replace HG:=hid (qaa bk (qab HG.out) HG.out);replace HQ:=hid (HST.out _ _ HQ.out bk);clear bk;obtain ⟨c0,c1,c2,c3,c4⟩:=qal HG.out
      go_wp2_with (with_reducible refine wpList_load_row rfl 28 _ rfl g rfl 28 _ (0,0) _ HG.out Tryz.underlying28 rfl (qaD _ _ _ _ _) ?_)
      clear c0 c1 c2 c3 c4
      refine (CI.out _ HQ.out).mono ?_
      rintro ee W4 ⟨rfl,bk⟩;replace hb:=hb.trans (bk.mono (Nat.le_of_lt (qab HR.out)));replace HR:=hid (qaa bk (qab HR.out) HR.out);replace HG:=hid (qaa bk (qab HG.out) HG.out);replace HQ:=hid (HST.out _ _ HQ.out bk);clear bk
      go_wp2_with fail
      refine (CW.out _).mono ?_
      rintro ee W5 ⟨rfl,bk⟩;replace hb:=hb.trans (bk.mono (Nat.le_of_lt (qab HR.out)));replace HR:=hid (qaa bk (qab HR.out) HR.out);replace HG:=hid (qaa bk (qab HG.out) HG.out);replace HQ:=hid (HST.out _ _ HQ.out bk);clear bk;obtain ⟨c0,c1,c2,c3,c4⟩:=qal HG.out
      go_wp2_with fail
      refine (CV.out _ HQ.out).mono ?_
      rintro ee W6 ⟨rfl,bk⟩;replace hb:=hb.trans (bk.mono (Nat.le_of_lt (qab HR.out)));replace HR:=hid (qaa bk (qab HR.out) HR.out);replace HG:=hid (qaa bk (qab HG.out) HG.out);replace HQ:=hid (HST.out _ _ HQ.out bk);clear bk;clear c0 c1 c2 c3 c4
      go_wp2_with (first | (with_reducible refine wpList_load_row rfl 28 _ rfl g rfl 28 _ (0,0) _ HG.out Tryz.underlying28 rfl (qaD _ _ _ _ _) ?_) | (with_reducible refine wpList_store_row rfl 28 _ _ rfl B (cRow sr b d e f) rfl rfl 28 _ HR.out (qaD _ _ _ _ _) rfl (qdc _ _ _ _ _) ?_))
      exact bodyPost_ret (qbF (by rfl) _ _ B 28 _ (0,0) _ rfl (setRow_heap _ _ _ _ _ _ HR.out) Tryz.underlying28 rfl (qaD _ _ _ _ _)) rfl ⟨by rw [HV.out.1,HV.out.2];rfl,by rw [HBB.out];exact below_setRow hb (Nat.le_refl _) _⟩
     ·have HV:=hid (HBAD.out 22 (by rw [hre,if_neg hv]) (by decide))
      have d5:(F.ver f inn sg != 0)=true:=by simp [hv]
      clear hre HBAD hgood hv;generalize F.ver f inn sg=vv at *
      refine (CR.out _).mono ?_
      rintro ee W3 ⟨rfl,bk⟩;replace hb:=hb.trans (bk.mono (Nat.le_of_lt (qab HR.out)));replace HR:=hid (qaa bk (qab HR.out) HR.out);replace HG:=hid (qaa bk (qab HG.out) HG.out);replace HQ:=hid (HST.out _ _ HQ.out bk);clear bk;obtain ⟨c0,c1,c2,c3,c4⟩:=qal HG.out
      go_wp2_with (with_reducible refine wpList_load_row rfl 28 _ rfl g rfl 28 _ (0,0) _ HG.out Tryz.underlying28 rfl (qaD _ _ _ _ _) ?_)
      clear c0 c1 c2 c3 c4
      refine (CI.out _ HQ.out).mono ?_
      rintro ee W4 ⟨rfl,bk⟩;replace hb:=hb.trans (bk.mono (Nat.le_of_lt (qab HR.out)));replace HR:=hid (qaa bk (qab HR.out) HR.out);replace HG:=hid (qaa bk (qab HG.out) HG.out);replace HQ:=hid (HST.out _ _ HQ.out bk);clear bk
      go_wp2_with fail
      refine (CW.out _).mono ?_
      rintro ee W5 ⟨rfl,bk⟩;replace hb:=hb.trans (bk.mono (Nat.le_of_lt (qab HR.out)));replace HR:=hid (qaa bk (qab HR.out) HR.out);replace HG:=hid (qaa bk (qab HG.out) HG.out);replace HQ:=hid (HST.out _ _ HQ.out bk);clear bk;obtain ⟨c0,c1,c2,c3,c4⟩:=qal HG.out
      go_wp2_with fail
      refine (CV.out _ HQ.out).mono ?_
      rintro ee W6 ⟨rfl,bk⟩;replace hb:=hb.trans (bk.mono (Nat.le_of_lt (qab HR.out)));replace HR:=hid (qaa bk (qab HR.out) HR.out);replace HG:=hid (qaa bk (qab HG.out) HG.out);replace HQ:=hid (HST.out _ _ HQ.out bk);clear bk;clear c0 c1 c2 c3 c4
      go_wp2_with (with_reducible refine wpList_store_row rfl 28 _ _ rfl B (cRow 0 ⟨#[]⟩ 0 0 ⟨#[]⟩) rfl rfl 28 _ HR.out (qaD _ _ _ _ _) rfl (qdc _ _ _ _ _) ?_)
      exact bodyPost_ret (qbF (by rfl) _ _ B 28 _ (0,0) _ rfl (setRow_heap _ _ _ _ _ _ HR.out) Tryz.underlying28 rfl (qaD _ _ _ _ _)) rfl ⟨by rw [HV.out.1,HV.out.2];rfl,by rw [HBB.out];exact below_setRow hb (Nat.le_refl _) _⟩
    ·have hok:okC s=false:=by rw [HOK.out,decide_eq_false hw];simp
     have HV:=hid (HBAD.out 11 (by rw [HRE.out,hok,if_neg Bool.false_ne_true]) (by decide))
     rw [decide_eq_false hw] at hse;clear hok hr hk hg hw HOK HPT HRE HVER HGOOD HBAD;generalize whoB (innB ⟨sr,b,d,e,f⟩) sg=wh at *;generalize hII:innB ⟨sr,b,d,e,f⟩=inn at *;clear hII
     refine (CR.out _).mono ?_
     rintro ee W3 ⟨rfl,bk⟩;replace hb:=hb.trans (bk.mono (Nat.le_of_lt (qab HR.out)));replace HR:=hid (qaa bk (qab HR.out) HR.out);replace HG:=hid (qaa bk (qab HG.out) HG.out);replace HQ:=hid (HST.out _ _ HQ.out bk);clear bk;obtain ⟨c0,c1,c2,c3,c4⟩:=qal HG.out
     go_wp2_with (with_reducible refine wpList_load_row rfl 28 _ rfl g rfl 28 _ (0,0) _ HG.out Tryz.underlying28 rfl (qaD _ _ _ _ _) ?_)
     clear c0 c1 c2 c3 c4
     refine (CI.out _ HQ.out).mono ?_
     rintro ee W4 ⟨rfl,bk⟩;replace hb:=hb.trans (bk.mono (Nat.le_of_lt (qab HR.out)));replace HR:=hid (qaa bk (qab HR.out) HR.out);replace HG:=hid (qaa bk (qab HG.out) HG.out);replace HQ:=hid (HST.out _ _ HQ.out bk);clear bk
     go_wp2_with fail
     refine (CW.out _).mono ?_
     rintro ee W5 ⟨rfl,bk⟩;replace hb:=hb.trans (bk.mono (Nat.le_of_lt (qab HR.out)));replace HR:=hid (qaa bk (qab HR.out) HR.out);replace HG:=hid (qaa bk (qab HG.out) HG.out);replace HQ:=hid (HST.out _ _ HQ.out bk);clear bk
     go_wp2_with (with_reducible refine wpList_store_row rfl 28 _ _ rfl B (cRow 0 ⟨#[]⟩ 0 0 ⟨#[]⟩) rfl rfl 28 _ HR.out (qaD _ _ _ _ _) rfl (qdc _ _ _ _ _) ?_)
     exact bodyPost_ret (qbF (by rfl) _ _ B 28 _ (0,0) _ rfl (setRow_heap _ _ _ _ _ _ HR.out) Tryz.underlying28 rfl (qaD _ _ _ _ _)) rfl ⟨by rw [HV.out.1,HV.out.2];rfl,by rw [HBB.out];exact below_setRow hb (Nat.le_refl _) _⟩
   ·have d3:((sg.size:Int) != 64)=true:=by simp;omega
    have HV:=hid (HBAD.out 11 (by rw [HRE.out,HOK.out,decide_eq_false hg];simp) (by decide))
    clear hr hk hg HOK HPT HRE HVER HGOOD HBAD CI CW
    refine (CR.out _).mono ?_
    rintro ee W3 ⟨rfl,bk⟩;replace hb:=hb.trans (bk.mono (Nat.le_of_lt (qab HR.out)));replace HR:=hid (qaa bk (qab HR.out) HR.out);replace HG:=hid (qaa bk (qab HG.out) HG.out);replace HQ:=hid (HST.out _ _ HQ.out bk);clear bk;obtain ⟨c0,c1,c2,c3,c4⟩:=qal HG.out
    go_wp2_with (with_reducible refine wpList_store_row rfl 28 _ _ rfl B (cRow 0 ⟨#[]⟩ 0 0 ⟨#[]⟩) rfl rfl 28 _ HR.out (qaD _ _ _ _ _) rfl (qdc _ _ _ _ _) ?_)
    exact bodyPost_ret (qbF (by rfl) _ _ B 28 _ (0,0) _ rfl (setRow_heap _ _ _ _ _ _ HR.out) Tryz.underlying28 rfl (qaD _ _ _ _ _)) rfl ⟨by rw [HV.out.1,HV.out.2];rfl,by rw [HBB.out];exact below_setRow hb (Nat.le_refl _) _⟩
  ·have d2:((f.size:Int) != 32)=true:=by simp;omega
   have HV:=hid (HBAD.out 11 (by rw [HRE.out,HOK.out,decide_eq_false hk];simp) (by decide))
   clear hr hk HOK HPT HRE HVER HGOOD HBAD CI CW
   refine (CR.out _).mono ?_
   rintro ee W3 ⟨rfl,bk⟩;replace hb:=hb.trans (bk.mono (Nat.le_of_lt (qab HR.out)));replace HR:=hid (qaa bk (qab HR.out) HR.out);replace HG:=hid (qaa bk (qab HG.out) HG.out);replace HQ:=hid (HST.out _ _ HQ.out bk);clear bk;obtain ⟨c0,c1,c2,c3,c4⟩:=qal HG.out
   go_wp2_with (with_reducible refine wpList_store_row rfl 28 _ _ rfl B (cRow 0 ⟨#[]⟩ 0 0 ⟨#[]⟩) rfl rfl 28 _ HR.out (qaD _ _ _ _ _) rfl (qdc _ _ _ _ _) ?_)
   exact bodyPost_ret (qbF (by rfl) _ _ B 28 _ (0,0) _ rfl (setRow_heap _ _ _ _ _ _ HR.out) Tryz.underlying28 rfl (qaD _ _ _ _ _)) rfl ⟨by rw [HV.out.1,HV.out.2];rfl,by rw [HBB.out];exact below_setRow hb (Nat.le_refl _) _⟩
end
section
open Go.RowKit Go.Sort
end
end Go.Proofs.YteomfleofeeofaaGreatDoor
