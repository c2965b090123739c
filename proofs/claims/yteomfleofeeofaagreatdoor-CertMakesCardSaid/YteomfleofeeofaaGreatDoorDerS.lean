/- Things of the document on bytes: tags, what a thing is, the first thing of bytes. No program; Whether a number is a tag; the first thing of bytes (package cressetref13); A thing of a tag: the reference's Write; The number that a thing has in it: the reference's ReadInt; What is written is read, and what is read is written again. No program; A number as a thing: the reference's Int; Numbers as bytes, back and forth: the bytes of a number are read as it, and what is read is written again. No program; Names of numbers as bytes, back and forth: groups of seven bits, what a name's body is, which name bytes are. No program; Slices of numbers as calls are handed them, and whether two are the same; A number in groups: the reference's group; A name of numbers as a thing: the reference's Oid. -/
import Derived.Test.YteomfleofeeofaaGreatDoorConvS
import Derived.Test.YteomfleofeeofaaGreatDoorToldG
namespace Go.Proofs.YteomfleofeeofaaGreatDoor
open Go.Lib (hid)
open _root_.List (take_succ_cons)
open _root_.Array (getD_eq_getD_getElem?)
set_option maxRecDepth 100000
set_option linter.unusedSimpArgs false
set_option linter.unusedVariables false
section
def isT (n:Int):Bool:=decide (0≤n)&&decide (n≤255)&&(n%32 != 31)
def lenL (n:Nat):List UInt8:=if n<128 then [UInt8.ofNat n] else if n<256 then [129,UInt8.ofNat n] else [130,UInt8.ofNat (n / 256),UInt8.ofNat n]
def wrL (tag:Int) (n:Nat):List UInt8:=UInt8.ofNat tag.toNat :: lenL n
def wrE (tag:Int) (body:ByteArray):Int:=if isT tag=true then (if body.size<65536 then 0 else 13) else 1
def wrX (tag:Int) (body:ByteArray):ByteArray:=if wrE tag body=0 then ⟨(wrL tag body.size).toArray⟩++body else ⟨#[]⟩
def rdB (l:List UInt8) (i:Nat):Nat:=(l.getD i 0).toNat
theorem qcR (l:List UInt8) (i:Nat):rdB l i<256:=UInt8.toNat_lt _
def rdA (l:List UInt8):Nat:=if 128<rdB l 1 then rdB l 1-126 else 2
def rdN (l:List UInt8):Nat:=if rdB l 1=129 then rdB l 2 else if rdB l 1=130 then 256*rdB l 2+rdB l 3 else rdB l 1
def rdE (l:List UInt8):Int:=
 if l.length=0 then 10 else if rdB l 0%32=31 then 11 else if l.length<2 then 10 else if rdB l 1=128∨130<rdB l 1 then 11 else if l.length<rdA l then 10 else
  if (rdB l 1=129∧rdN l<128)∨(rdB l 1=130∧rdN l<256) then 11 else if l.length<rdA l+rdN l then 10 else 0
def rdTag (s:ByteArray):Int:=if rdE s.data.toList=0 then (rdB s.data.toList 0:Int) else 0
def qbb (s:ByteArray):ByteArray:=if rdE s.data.toList=0 then s.extract (rdA s.data.toList) (rdA s.data.toList+rdN s.data.toList) else ⟨#[]⟩
def qbK (s:ByteArray):ByteArray:=if rdE s.data.toList=0 then s.extract (rdA s.data.toList+rdN s.data.toList) s.size else ⟨#[]⟩
def qcb (s:ByteArray):Int:=rdE s.data.toList
theorem rd_bad (s:ByteArray) (e:Int) (h:rdE s.data.toList=e) (he:e≠0):rdTag s=0∧qbb s=⟨#[]⟩∧qbK s=⟨#[]⟩∧qcb s=e:=by
 have hn:¬ rdE s.data.toList=0:=by rw [h];exact he
 exact ⟨if_neg hn,if_neg hn,if_neg hn,h⟩
theorem rd_good (s:ByteArray) (h:rdE s.data.toList=0):rdTag s=(rdB s.data.toList 0:Int)∧qbb s=s.extract (rdA s.data.toList) (rdA s.data.toList+rdN s.data.toList)∧qbK s=s.extract (rdA s.data.toList+rdN s.data.toList) s.size∧qcb s=0:=
 ⟨if_pos h,if_pos h,if_pos h,h⟩
theorem rd_at (s:ByteArray) (i:Nat) (hi:i<s.size):∀ k:i<s.size,((s[i]'k).toNat:Int)=(rdB s.data.toList i:Int):=fun k=>by
 rw [rdB,List.getD_eq_getElem?_getD,Array.getElem?_toList]
 simp [k]
 rfl
theorem isT_byte (b:Nat) (h:b<256):isT (b:Int)=!decide (b%32=31):=by
 rw [isT,decide_eq_true (by omega),decide_eq_true (by omega),Bool.true_and,Bool.true_and,bne]
 congr 1
 by_cases c:b%32=31
 ·rw [decide_eq_true c];simp;omega
 ·rw [decide_eq_false c];simp;omega
theorem rd_sizes (s:ByteArray) (h:qcb s=0):(qbb s).size≤s.size∧(qbK s).size<s.size:=by
 obtain ⟨_,h2,h3,_⟩:=rd_good s h;have hl:s.data.toList.length=s.size:=(Lib.size_eq s).symm
 have hA:2≤rdA s.data.toList:=by rw [rdA];split <;> omega
 have hk:rdA s.data.toList+rdN s.data.toList≤s.size:=by
  have h':rdE s.data.toList=0:=h;rw [rdE] at h'
  split at h'
  ·cases h'
  split at h'
  ·cases h'
  split at h'
  ·cases h'
  split at h'
  ·cases h'
  split at h'
  ·cases h'
  split at h'
  ·cases h'
  split at h'
  ·cases h'
  omega
 rw [h2,h3,ByteArray.size_extract,ByteArray.size_extract]
 omega
open Go.RowKit Go.Sort in
theorem qcS {fn:Func} {t u v x:Tmp} (h:fn.results=#[.tmp t,.tmp u,.tmp v,.tmp x]) (tmps:Array Value) (P:Program) (w:World) :
  (results fn tmps).run P w=.ok (.tuple #[tmps.getD t undef,tmps.getD u undef,tmps.getD v undef,tmps.getD x undef]) w:=by
 simp [results,h]
end
section
open Go.RowKit Go.Sort
set_option maxHeartbeats 1000000 in
theorem qdV (n:Int) (w:World) (h0:-9223372036854775808≤n) (h1:n≤9223372036854775807) :
  Calls Tryz.prog 178 #[.int .i64 n] w fun e w'=>e=.returned (.bool (isT n))∧Below w.heap.size w w':=by
 have hv:isT n=(decide (0≤n)&&decide (n≤255)&&(n%32 != 31)):=rfl
 by_cases c1:0≤n
 ·have d1:decide (0≤n)=true:=decide_eq_true c1
  by_cases c2:n≤255
  ·have d2:decide (n≤255)=true:=decide_eq_true c2
   rw [d1,d2,Bool.true_and,Bool.true_and] at hv;have hr:n.tmod 32=n%32:=Int.tmod_eq_emod_of_nonneg c1
   cases c3:(n%32 != 31) with
   | true=>
    rw [c3] at hv;have HV:=hid hv;clear hv
    go_enter Tryz.func178,Tryz.ntmps178
    go_wp2_with fail
    go_ret
    exact ⟨by rw [HV.out];rfl,Below.refl _ _⟩
   | false=>
    rw [c3] at hv;have HV:=hid hv;clear hv
    go_enter Tryz.func178,Tryz.ntmps178
    go_wp2_with fail
    go_ret
    exact ⟨by rw [HV.out];rfl,Below.refl _ _⟩
  ·have d2:decide (n≤255)=false:=decide_eq_false c2
   rw [d1,d2] at hv;have HV:=hid hv;clear hv
   go_enter Tryz.func178,Tryz.ntmps178
   go_wp2_with fail
   go_ret
   exact ⟨by rw [HV.out];rfl,Below.refl _ _⟩
 ·have d1:decide (0≤n)=false:=decide_eq_false c1
  rw [d1] at hv;have HV:=hid hv;clear hv
  go_enter Tryz.func178,Tryz.ntmps178
  go_wp2_with fail
  go_ret
  exact ⟨by rw [HV.out];rfl,Below.refl _ _⟩
end
section
open Go.RowKit Go.Sort
theorem row_news (W:World) (B:Nat) (t:TypeId) (l:List Value) (fr:Nat×Nat) (h:W.heap[B]?=some (.cells l.toArray t fr)):∀ j u,l[j]?=some u→W.cell? ((⟨B,0,none⟩:Addr).add j)=some u:=fun j u hj=>by
 have hadd:(⟨B,0,none⟩:Addr).add j=⟨B,j,none⟩:=by unfold Addr.add;split <;> simp_all
 rw [hadd,cell_of_row W B _ _ t fr h]
 simpa using hj
theorem qcF (k:Nat) (h:k<256):((UInt8.ofNat k).toNat:Int)=(k:Int):=by simp;omega
theorem wrShort_cells (a n:Nat) (ha:a<256) (hn:n<128):[Value.int .u8 (a:Int)]++[.int .u8 (n:Int)]=Lib.byteCells (UInt8.ofNat a :: [UInt8.ofNat n]):=by
 have e0:=qcF a ha
 have e1:((UInt8.ofNat n).toNat:Int)=(n:Int)%256:=by rw [UInt8.toNat_ofNat'];omega
 simp only [Lib.byteCells,List.map_cons,List.map_nil,List.cons_append,List.nil_append,e0,e1]
 rw [Int.emod_eq_of_lt (by omega) (by omega)]
set_option maxHeartbeats 2000000 in
theorem rwrShort_any (a:Nat) (b:ByteArray) (w:World) (ha:a<256) (ht:isT (a:Int)=true) (hn:b.size<128) :
  Calls Tryz.prog 117 #[.int .i64 (a:Int),.string b] w fun e w'=>e=.returned (.tuple #[.string (⟨(UInt8.ofNat a :: [UInt8.ofNat b.size]).toArray⟩++b),.int .i64 0])∧Below w.heap.size w w':=by
 obtain ⟨i0,hi,hz0,hz1,hz2⟩:=info_parts qcz
 have CT:=hid (fun W=>qdV (a:Int) W (by omega) (by omega))
 rw [ht] at CT;have HC:=hid (wrShort_cells a b.size ha hn)
 have d1:decide ((65536:Int)≤(b.size:Int))=false:=by simp;omega
 have d2:decide ((b.size:Int)<128)=true:=by simp;omega
 have wt:IntKind.u8.wrap (a:Int)=(a:Int):=by rw [IntKind.wrap_u8];omega
 have hsum:2+b.size≤9223372036854775807:=by omega
 have hb:=Below.refl w.heap.size w;clear ht
 go_enter Tryz.func117,Tryz.ntmps117
 go_wp2_with fail
 refine (CT.out w).mono ?_
 rintro e W1 ⟨rfl,bk⟩;replace hb:=hb.trans (bk.mono hb.size);clear bk CT;have hb1:Below w.heap.size w (W1.alloc (.cells #[.int .u8 (a:Int)] 5)):=hb.alloc hb.size _;have hsz1:w.heap.size≤(W1.alloc (.cells #[.int .u8 (a:Int)] 5)).heap.size:=hb1.size
 have HO0:=hid (show (W1.alloc (.cells #[.int .u8 (a:Int)] 5)).ownsRow W1.heap.size 5 1 (.slice (some ⟨W1.heap.size,0,none⟩) 1 1) 1 [.int .u8 (a:Int)] from
  ⟨rfl,.inr ⟨W1.heap.size,1,_,rfl,Nat.le_refl _,qag W1 _,by omega,by unfold maxLen;omega,rfl,rfl⟩⟩)
 have HO1:=hid (HO0.out.alloc (.cells #[.int .u8 (b.size:Int)] 5));have HN:=hid (row_news _ (W1.heap.size+1) 5 [.int .u8 (b.size:Int)] (0,0) (qaw W1 (.cells #[.int .u8 (a:Int)] 5) (.cells #[.int .u8 (b.size:Int)] 5)));have hb2:Below w.heap.size w ((W1.alloc (.cells #[.int .u8 (a:Int)] 5)).alloc (.cells #[.int .u8 (b.size:Int)] 5)):=hb1.alloc hsz1 _;have hW1:=hb.size
 go_wp2_with (at_builtin;refine wpList_append_own _ rfl (.tmp 20) (.tmp 23) 41 rfl W1.heap.size 5 i0 (.int .u8 0) 1 1 Tryz.underlying41 hi hz0 hz1 hz2 rfl (by omega) (.slice (some ⟨W1.heap.size,0,none⟩) 1 1) 1 _ rfl HO1.out ⟨W1.heap.size+1,0,none⟩ 1 1 [.int .u8 (b.size:Int)] rfl rfl HN.out ?b2 ?b3 ?b4 ?b5 ?_)
 case b2=>intro u hu;simp at hu;(first | (subst hu;rfl) | (rcases hu with rfl | rfl <;> rfl) | (rcases hu with rfl | rfl | rfl <;> rfl))
 case b3=>unfold maxLen;omega
 case b4=>omega
 case b5=>simp;omega
 intro v1 W2 hown1 hgrow1 _
 have hb3:Below w.heap.size w W2:=hb2.grown hgrow1 hb2.size (fun k hk=>by have:=(World.ownsRow.lt HO1.out k hk).1;omega)
 have hxs:=qcX hown1;have e3:=HC.out
 simp only [List.cons_append,List.nil_append] at e3 hxs
 rw [e3] at hxs
 obtain ⟨g,cp,rfl,hoG,_⟩:=hxs.1.some (by rw [Lib.byteCells_length];simp)
 rw [Lib.byteCells_length];generalize hLL:(UInt8.ofNat a :: [UInt8.ofNat b.size])=L at *
 have hcv:=qbl W2 g cp L (fun j x hx=>hoG.cells j _ (by simp [Lib.byteCells,hx]))
 clear hoG hxs hown1 hgrow1 e3 HC HO0 HO1 HN hb hb1 hb2
 have hsz:L.toArray.size=2:=by rw [← hLL];rfl
 have HLL:=hid hLL;clear hLL;generalize hil:(⟨L.toArray⟩:ByteArray)=il at *;have HIL:=hid hil
 have hsum2:il.size+b.size≤9223372036854775807:=by rw [← hil];show L.toArray.size+b.size≤_;rw [hsz];exact hsum
 clear hil hsz
 go_wp2_with fail
 go_ret2
 exact ⟨by rw [HLL.out,HIL.out];rfl,hb3⟩
theorem wrMid_cells (a n:Nat) (ha:a<256) (hn:128≤n∧n<256):[Value.int .u8 (a:Int)]++[.int .u8 129,.int .u8 (n:Int)]=Lib.byteCells (UInt8.ofNat a :: [129,UInt8.ofNat n]):=by
 have e0:=qcF a ha
 have e1:((UInt8.ofNat n).toNat:Int)=(n:Int)%256:=by rw [UInt8.toNat_ofNat'];omega
 simp only [Lib.byteCells,List.map_cons,List.map_nil,List.cons_append,List.nil_append,e0,e1]
 rw [Int.emod_eq_of_lt (by omega) (by omega)];rfl
set_option maxHeartbeats 2000000 in
theorem rwrMid_any (a:Nat) (b:ByteArray) (w:World) (ha:a<256) (ht:isT (a:Int)=true) (hn:128≤b.size∧b.size<256) :
  Calls Tryz.prog 117 #[.int .i64 (a:Int),.string b] w fun e w'=>e=.returned (.tuple #[.string (⟨(UInt8.ofNat a :: [129,UInt8.ofNat b.size]).toArray⟩++b),.int .i64 0])∧Below w.heap.size w w':=by
 obtain ⟨i0,hi,hz0,hz1,hz2⟩:=info_parts qcz
 have CT:=hid (fun W=>qdV (a:Int) W (by omega) (by omega))
 rw [ht] at CT;have HC:=hid (wrMid_cells a b.size ha hn)
 have d1:decide ((65536:Int)≤(b.size:Int))=false:=by simp;omega
 have d2:decide ((b.size:Int)<128)=false:=by simp;omega
 have d3:decide ((b.size:Int)<256)=true:=by simp;omega
 have wt:IntKind.u8.wrap (a:Int)=(a:Int):=by rw [IntKind.wrap_u8];omega
 have hsum:3+b.size≤9223372036854775807:=by omega
 have hb:=Below.refl w.heap.size w;clear ht
 go_enter Tryz.func117,Tryz.ntmps117
 go_wp2_with fail
 refine (CT.out w).mono ?_
 rintro e W1 ⟨rfl,bk⟩;replace hb:=hb.trans (bk.mono hb.size);clear bk CT;have hb1:Below w.heap.size w (W1.alloc (.cells #[.int .u8 (a:Int)] 5)):=hb.alloc hb.size _;have hsz1:w.heap.size≤(W1.alloc (.cells #[.int .u8 (a:Int)] 5)).heap.size:=hb1.size
 have HO0:=hid (show (W1.alloc (.cells #[.int .u8 (a:Int)] 5)).ownsRow W1.heap.size 5 1 (.slice (some ⟨W1.heap.size,0,none⟩) 1 1) 1 [.int .u8 (a:Int)] from
  ⟨rfl,.inr ⟨W1.heap.size,1,_,rfl,Nat.le_refl _,qag W1 _,by omega,by unfold maxLen;omega,rfl,rfl⟩⟩)
 have HO1:=hid (HO0.out.alloc (.cells #[.int .u8 129,.int .u8 (b.size:Int)] 5));have HN:=hid (row_news _ (W1.heap.size+1) 5 [.int .u8 129,.int .u8 (b.size:Int)] (0,0) (qaw W1 (.cells #[.int .u8 (a:Int)] 5) (.cells #[.int .u8 129,.int .u8 (b.size:Int)] 5)));have hb2:Below w.heap.size w ((W1.alloc (.cells #[.int .u8 (a:Int)] 5)).alloc (.cells #[.int .u8 129,.int .u8 (b.size:Int)] 5)):=hb1.alloc hsz1 _;have hW1:=hb.size
 go_wp2_with (at_builtin;refine wpList_append_own _ rfl (.tmp 27) (.tmp 30) 41 rfl W1.heap.size 5 i0 (.int .u8 0) 1 1 Tryz.underlying41 hi hz0 hz1 hz2 rfl (by omega) (.slice (some ⟨W1.heap.size,0,none⟩) 1 1) 1 _ rfl HO1.out ⟨W1.heap.size+1,0,none⟩ 2 2 [.int .u8 129,.int .u8 (b.size:Int)] rfl rfl HN.out ?b2 ?b3 ?b4 ?b5 ?_)
 case b2=>intro u hu;simp at hu;(first | (subst hu;rfl) | (rcases hu with rfl | rfl <;> rfl) | (rcases hu with rfl | rfl | rfl <;> rfl))
 case b3=>unfold maxLen;omega
 case b4=>omega
 case b5=>simp;omega
 intro v1 W2 hown1 hgrow1 _
 have hb3:Below w.heap.size w W2:=hb2.grown hgrow1 hb2.size (fun k hk=>by have:=(World.ownsRow.lt HO1.out k hk).1;omega)
 have hxs:=qcX hown1;have e3:=HC.out
 simp only [List.cons_append,List.nil_append] at e3 hxs
 rw [e3] at hxs
 obtain ⟨g,cp,rfl,hoG,_⟩:=hxs.1.some (by rw [Lib.byteCells_length];simp)
 rw [Lib.byteCells_length];generalize hLL:(UInt8.ofNat a :: [129,UInt8.ofNat b.size])=L at *
 have hcv:=qbl W2 g cp L (fun j x hx=>hoG.cells j _ (by simp [Lib.byteCells,hx]))
 clear hoG hxs hown1 hgrow1 e3 HC HO0 HO1 HN hb hb1 hb2
 have hsz:L.toArray.size=3:=by rw [← hLL];rfl
 have HLL:=hid hLL;clear hLL;generalize hil:(⟨L.toArray⟩:ByteArray)=il at *;have HIL:=hid hil
 have hsum2:il.size+b.size≤9223372036854775807:=by rw [← hil];show L.toArray.size+b.size≤_;rw [hsz];exact hsum
 clear hil hsz
 go_wp2_with fail
 go_ret2
 exact ⟨by rw [HLL.out,HIL.out];rfl,hb3⟩
theorem wrLong_cells (a n:Nat) (ha:a<256) (hn:256≤n∧n<65536):[Value.int .u8 (a:Int)]++[.int .u8 130,.int .u8 ((n:Int) / 256),.int .u8 ((n:Int)%256)]=Lib.byteCells (UInt8.ofNat a :: [130,UInt8.ofNat (n / 256),UInt8.ofNat n]):=by
 have e0:=qcF a ha
 have e1:((UInt8.ofNat n).toNat:Int)=(n:Int)%256:=by rw [UInt8.toNat_ofNat'];omega
 simp only [Lib.byteCells,List.map_cons,List.map_nil,List.cons_append,List.nil_append,e0,e1]
 rw [qcF (n / 256) (by omega)];rfl
set_option maxHeartbeats 2000000 in
theorem rwrLong_any (a:Nat) (b:ByteArray) (w:World) (ha:a<256) (ht:isT (a:Int)=true) (hn:256≤b.size∧b.size<65536) :
  Calls Tryz.prog 117 #[.int .i64 (a:Int),.string b] w fun e w'=>e=.returned (.tuple #[.string (⟨(UInt8.ofNat a :: [130,UInt8.ofNat (b.size / 256),UInt8.ofNat b.size]).toArray⟩++b),.int .i64 0])∧Below w.heap.size w w':=by
 obtain ⟨i0,hi,hz0,hz1,hz2⟩:=info_parts qcz
 have CT:=hid (fun W=>qdV (a:Int) W (by omega) (by omega))
 rw [ht] at CT;have HC:=hid (wrLong_cells a b.size ha hn)
 have d1:decide ((65536:Int)≤(b.size:Int))=false:=by simp;omega
 have d2:decide ((b.size:Int)<128)=false:=by simp;omega
 have d3:decide ((b.size:Int)<256)=false:=by simp;omega
 have wt:IntKind.u8.wrap (a:Int)=(a:Int):=by rw [IntKind.wrap_u8];omega
 have hsum:4+b.size≤9223372036854775807:=by omega
 have hb:=Below.refl w.heap.size w;clear ht
 go_enter Tryz.func117,Tryz.ntmps117
 go_wp2_with fail
 refine (CT.out w).mono ?_
 rintro e W1 ⟨rfl,bk⟩;replace hb:=hb.trans (bk.mono hb.size);clear bk CT;have hb1:Below w.heap.size w (W1.alloc (.cells #[.int .u8 (a:Int)] 5)):=hb.alloc hb.size _;have hsz1:w.heap.size≤(W1.alloc (.cells #[.int .u8 (a:Int)] 5)).heap.size:=hb1.size
 have HO0:=hid (show (W1.alloc (.cells #[.int .u8 (a:Int)] 5)).ownsRow W1.heap.size 5 1 (.slice (some ⟨W1.heap.size,0,none⟩) 1 1) 1 [.int .u8 (a:Int)] from
  ⟨rfl,.inr ⟨W1.heap.size,1,_,rfl,Nat.le_refl _,qag W1 _,by omega,by unfold maxLen;omega,rfl,rfl⟩⟩)
 have HO1:=hid (HO0.out.alloc (.cells #[.int .u8 130,.int .u8 ((b.size:Int) / 256),.int .u8 ((b.size:Int)%256)] 5));have HN:=hid (row_news _ (W1.heap.size+1) 5 [.int .u8 130,.int .u8 ((b.size:Int) / 256),.int .u8 ((b.size:Int)%256)] (0,0) (qaw W1 (.cells #[.int .u8 (a:Int)] 5) (.cells #[.int .u8 130,.int .u8 ((b.size:Int) / 256),.int .u8 ((b.size:Int)%256)] 5)));have hb2:Below w.heap.size w ((W1.alloc (.cells #[.int .u8 (a:Int)] 5)).alloc (.cells #[.int .u8 130,.int .u8 ((b.size:Int) / 256),.int .u8 ((b.size:Int)%256)] 5)):=hb1.alloc hsz1 _;have hW1:=hb.size
 go_wp2_with (at_builtin;refine wpList_append_own _ rfl (.tmp 32) (.tmp 39) 41 rfl W1.heap.size 5 i0 (.int .u8 0) 1 1 Tryz.underlying41 hi hz0 hz1 hz2 rfl (by omega) (.slice (some ⟨W1.heap.size,0,none⟩) 1 1) 1 _ rfl HO1.out ⟨W1.heap.size+1,0,none⟩ 3 3 [.int .u8 130,.int .u8 ((b.size:Int) / 256),.int .u8 ((b.size:Int)%256)] rfl rfl HN.out ?b2 ?b3 ?b4 ?b5 ?_)
 case b2=>intro u hu;simp at hu;(first | (subst hu;rfl) | (rcases hu with rfl | rfl <;> rfl) | (rcases hu with rfl | rfl | rfl <;> rfl))
 case b3=>unfold maxLen;omega
 case b4=>omega
 case b5=>simp;omega
 intro v1 W2 hown1 hgrow1 _
 have hb3:Below w.heap.size w W2:=hb2.grown hgrow1 hb2.size (fun k hk=>by have:=(World.ownsRow.lt HO1.out k hk).1;omega)
 have hxs:=qcX hown1;have e3:=HC.out
 simp only [List.cons_append,List.nil_append] at e3 hxs
 rw [e3] at hxs
 obtain ⟨g,cp,rfl,hoG,_⟩:=hxs.1.some (by rw [Lib.byteCells_length];simp)
 rw [Lib.byteCells_length];generalize hLL:(UInt8.ofNat a :: [130,UInt8.ofNat (b.size / 256),UInt8.ofNat b.size])=L at *
 have hcv:=qbl W2 g cp L (fun j x hx=>hoG.cells j _ (by simp [Lib.byteCells,hx]))
 clear hoG hxs hown1 hgrow1 e3 HC HO0 HO1 HN hb hb1 hb2
 have hsz:L.toArray.size=4:=by rw [← hLL];rfl
 have HLL:=hid hLL;clear hLL;generalize hil:(⟨L.toArray⟩:ByteArray)=il at *;have HIL:=hid hil
 have hsum2:il.size+b.size≤9223372036854775807:=by rw [← hil];show L.toArray.size+b.size≤_;rw [hsz];exact hsum
 clear hil hsz
 go_wp2_with fail
 go_ret2
 exact ⟨by rw [HLL.out,HIL.out];rfl,hb3⟩
set_option maxHeartbeats 2000000 in
theorem rwrBad_any (n:Int) (b:ByteArray) (w:World) (h0:-9223372036854775808≤n) (h1:n≤9223372036854775807) (ht:isT n=false) :
  Calls Tryz.prog 117 #[.int .i64 n,.string b] w fun e w'=>e=.returned (.tuple #[.string ⟨#[]⟩,.int .i64 1])∧Below w.heap.size w w':=by
 have CT:=hid (fun W=>qdV n W h0 h1)
 rw [ht] at CT;have hb:=Below.refl w.heap.size w;clear ht h0 h1
 go_enter Tryz.func117,Tryz.ntmps117
 go_wp2_with fail
 refine (CT.out w).mono ?_
 rintro e W1 ⟨rfl,bk⟩
 go_wp2_with fail
 go_ret2
 exact ⟨rfl,hb.trans (bk.mono hb.size)⟩
set_option maxHeartbeats 2000000 in
theorem rwrBig_any (n:Int) (b:ByteArray) (w:World) (h0:-9223372036854775808≤n) (h1:n≤9223372036854775807) (ht:isT n=true) (hb':65536≤b.size) :
  Calls Tryz.prog 117 #[.int .i64 n,.string b] w fun e w'=>e=.returned (.tuple #[.string ⟨#[]⟩,.int .i64 13])∧Below w.heap.size w w':=by
 have CT:=hid (fun W=>qdV n W h0 h1)
 rw [ht] at CT
 have d1:decide ((65536:Int)≤(b.size:Int))=true:=by simp;omega
 have hb:=Below.refl w.heap.size w;clear ht h0 h1
 go_enter Tryz.func117,Tryz.ntmps117
 go_wp2_with fail
 refine (CT.out w).mono ?_
 rintro e W1 ⟨rfl,bk⟩
 go_wp2_with fail
 go_ret2
 exact ⟨rfl,hb.trans (bk.mono hb.size)⟩
theorem qcZ (n:Int) (b:ByteArray) (w:World) (h0:-9223372036854775808≤n) (h1:n≤9223372036854775807) :
  Calls Tryz.prog 117 #[.int .i64 n,.string b] w fun e w'=>e=.returned (.tuple #[.string (wrX n b),.int .i64 (wrE n b)])∧Below w.heap.size w w':=by
 cases ht:isT n with
 | false=>
  have e1:wrE n b=1:=by rw [wrE,ht];rfl
  rw [wrX,e1,if_neg (by decide)]
  exact rwrBad_any n b w h0 h1 ht
 | true=>
  by_cases hbg:65536≤b.size
  ·have e1:wrE n b=13:=by rw [wrE,ht,if_pos rfl,if_neg (by omega)]
   rw [wrX,e1,if_neg (by decide)]
   exact rwrBig_any n b w h0 h1 ht hbg
  ·have e1:wrE n b=0:=by rw [wrE,ht,if_pos rfl,if_pos (by omega)]
   rw [wrX,e1,if_pos rfl,wrL,lenL]
   have hr:0≤n∧n≤255:=by
    have h:=ht
    simp only [isT,Bool.and_eq_true,decide_eq_true_eq] at h
    exact h.1
   obtain ⟨a,rfl⟩:∃ a:Nat,n=(a:Int):=⟨n.toNat,by omega⟩
   rw [Int.toNat_natCast]
   by_cases c1:b.size<128
   ·rw [if_pos c1]
    exact rwrShort_any a b w (by omega) ht c1
   ·rw [if_neg c1]
    by_cases c2:b.size<256
    ·rw [if_pos c2]
     exact rwrMid_any a b w (by omega) ht ⟨by omega,c2⟩
    ·rw [if_neg c2]
     exact rwrLong_any a b w (by omega) ht ⟨by omega,by omega⟩
end
section
open Go.RowKit Go.Sort
def riBad (l:List UInt8):Prop:=1<l.length∧((rdB l 0=0∧rdB l 1<128)∨(rdB l 0=255∧128≤rdB l 1))
instance (l:List UInt8):Decidable (riBad l):=by unfold riBad;infer_instance
def riE (l:List UInt8):Int:=if l.length=0 then 10 else if riBad l then 11 else if 8<l.length then 13 else 0
def riN (l:List UInt8):Nat→Int
 | 0=>if 128≤rdB l 0 then -1 else 0
 | k+1=>riN l k*256+(rdB l k:Int)
def riV (s:ByteArray):Int:=if riE s.data.toList=0 then riN s.data.toList s.data.toList.length else 0
def riErr (s:ByteArray):Int:=riE s.data.toList
theorem riN_first (l:List UInt8):-128≤riN l 1∧riN l 1<128:=by
 have h:=qcR l 0;rw [riN,riN]
 split <;> omega
theorem riN_bound (l:List UInt8):∀ k,-(128*256^k:Nat)≤riN l (k+1)∧riN l (k+1)<(128*256^k:Nat)
 | 0=>riN_first l
 | k+1=>by
  have h:=qcR l (k+1);have ih:=riN_bound l k;rw [riN,Nat.pow_succ]
  omega
theorem riN_small (l:List UInt8) (k:Nat) (h:k≤7):-36028797018963968≤riN l k∧riN l k<36028797018963968:=by
 cases k with
 | zero=>rw [riN];split <;> omega
 | succ k=>
  have ih:=riN_bound l k
  have:256^k≤256^6:=Nat.pow_le_pow_right (by decide) (by omega)
  have e6:(256:Nat)^6=281474976710656:=by decide
  omega
theorem or_low8 (m:Int) (b:Nat) (hb:b<256) (h0:-36028797018963968≤m) (h1:m<36028797018963968):bits .or .i64 (m*256) (b:Int)=m*256+(b:Int):=by
 have e1:(BitVec.ofInt 64 (m*256)).toNat=2^8*(m%72057594037927936).toNat:=by rw [BitVec.toNat_ofInt];omega
 have e2:(BitVec.ofInt 64 (b:Int)).toNat=b:=by rw [BitVec.toNat_ofInt];omega
 have h:=Nat.two_pow_add_eq_or_of_lt (show b<2^8 by omega) (m%72057594037927936).toNat
 show IntKind.i64.wrap (((BitVec.ofInt 64 (m*256) ||| BitVec.ofInt 64 (b:Int)).toNat:Nat):Int)=_
 rw [BitVec.toNat_or,e1,e2,← h,IntKind.wrap_i64]
 omega
theorem ri_bad (s:ByteArray) (e:Int) (h:riE s.data.toList=e) (he:e≠0):riV s=0∧riErr s=e:=⟨if_neg (by rw [h];exact he),h⟩
end
section
theorem toNat_of (k:Nat) (h:k<256):(UInt8.ofNat k).toNat=k:=by rw [UInt8.toNat_ofNat'];omega
theorem rd_list (a n:Nat) (bl rl:List UInt8) (ha:a<256) (ht:a%32≠31) (hn:bl.length=n) (h:n<65536) :
  rdB (wrL a n++(bl++rl)) 0=a∧rdA (wrL a n++(bl++rl))=(wrL a n).length∧rdN (wrL a n++(bl++rl))=n∧rdE (wrL a n++(bl++rl))=0:=by
 have e0:rdB (wrL a n++(bl++rl)) 0=a:=toNat_of a ha
 have hl:(wrL a n++(bl++rl)).length=(wrL a n).length+n+rl.length:=by rw [List.length_append,List.length_append,hn];omega
 by_cases c1:n<128
 ·have ew:wrL a n=[UInt8.ofNat a,UInt8.ofNat n]:=by rw [wrL,lenL,if_pos c1];rfl
  rw [ew] at e0 hl ⊢
  have e1:rdB ([UInt8.ofNat a,UInt8.ofNat n]++(bl++rl)) 1=n:=toNat_of n (by omega)
  generalize [UInt8.ofNat a,UInt8.ofNat n]++(bl++rl)=l at *
  have hA:rdA l=2:=if_neg (by omega)
  have hN:rdN l=n:=by rw [rdN,if_neg (by omega),if_neg (by omega),e1]
  refine ⟨e0,hA,hN,?_⟩
  simp only [List.length_cons,List.length_nil] at hl
  rw [rdE,if_neg (by omega),if_neg (by omega),if_neg (by omega),if_neg (by omega),if_neg (by omega),if_neg (by omega),if_neg (by omega)]
 by_cases c2:n<256
 ·have ew:wrL a n=[UInt8.ofNat a,129,UInt8.ofNat n]:=by rw [wrL,lenL,if_neg c1,if_pos c2];rfl
  rw [ew] at e0 hl ⊢;have e1:rdB ([UInt8.ofNat a,129,UInt8.ofNat n]++(bl++rl)) 1=129:=rfl
  have e2:rdB ([UInt8.ofNat a,129,UInt8.ofNat n]++(bl++rl)) 2=n:=toNat_of n (by omega)
  generalize [UInt8.ofNat a,129,UInt8.ofNat n]++(bl++rl)=l at *
  have hA:rdA l=3:=by rw [rdA,if_pos (by omega),e1]
  have hN:rdN l=n:=by rw [rdN,if_pos e1,e2]
  refine ⟨e0,hA,hN,?_⟩
  simp only [List.length_cons,List.length_nil] at hl
  rw [rdE,if_neg (by omega),if_neg (by omega),if_neg (by omega),if_neg (by omega),if_neg (by omega),if_neg (by omega),if_neg (by omega)]
 ·have ew:wrL a n=[UInt8.ofNat a,130,UInt8.ofNat (n / 256),UInt8.ofNat n]:=by rw [wrL,lenL,if_neg c1,if_neg c2];rfl
  rw [ew] at e0 hl ⊢;have e1:rdB ([UInt8.ofNat a,130,UInt8.ofNat (n / 256),UInt8.ofNat n]++(bl++rl)) 1=130:=rfl
  have e2:rdB ([UInt8.ofNat a,130,UInt8.ofNat (n / 256),UInt8.ofNat n]++(bl++rl)) 2=n / 256:=toNat_of _ (by omega)
  have e3:rdB ([UInt8.ofNat a,130,UInt8.ofNat (n / 256),UInt8.ofNat n]++(bl++rl)) 3=n%256:=by
   show (UInt8.ofNat n).toNat=n%256
   rw [UInt8.toNat_ofNat']
  generalize [UInt8.ofNat a,130,UInt8.ofNat (n / 256),UInt8.ofNat n]++(bl++rl)=l at *
  have hA:rdA l=4:=by rw [rdA,if_pos (by omega),e1]
  have hN:rdN l=n:=by rw [rdN,if_neg (by omega),if_pos e1,e2,e3];omega
  refine ⟨e0,hA,hN,?_⟩
  simp only [List.length_cons,List.length_nil] at hl
  rw [rdE,if_neg (by omega),if_neg (by omega),if_neg (by omega),if_neg (by omega),if_neg (by omega),if_neg (by omega),if_neg (by omega)]
theorem ext_of (s:ByteArray) (a b:Nat) (l:List UInt8) (h:((s.data.toList.drop a).take (b-a))=l):s.extract a b=⟨l.toArray⟩:=by
 have h2:(s.extract a b).data.toList=(⟨l.toArray⟩:ByteArray).data.toList:=by rw [Lib.extract_data,h]
 apply ByteArray.ext
 exact Array.toList_inj.1 h2
theorem mk_data (s:ByteArray):(⟨s.data.toList.toArray⟩:ByteArray)=s:=by
 apply ByteArray.ext
 exact Array.toArray_toList
theorem rd_wr (n:Int) (b r:ByteArray) (h:wrE n b=0):rdTag (wrX n b++r)=n∧qbb (wrX n b++r)=b∧qbK (wrX n b++r)=r∧qcb (wrX n b++r)=0:=by
 have hT:isT n=true:=by
  cases ht:isT n with
  | true=>rfl
  | false=>rw [wrE,ht] at h;cases h
 have hz:b.size<65536:=by
  apply Nat.lt_of_not_le
  intro hc
  rw [wrE,hT,if_pos rfl,if_neg (by omega)] at h
  cases h
 have hr:0≤n∧n≤255∧n%32≠31:=by
  have h':=hT
  simp only [isT,Bool.and_eq_true,decide_eq_true_eq,bne_iff_ne] at h'
  exact ⟨h'.1.1,h'.1.2,h'.2⟩
 obtain ⟨a,rfl⟩:∃ a:Nat,n=(a:Int):=⟨n.toNat,by omega⟩
 have hx:wrX (a:Int) b=⟨(wrL (a:Int) b.size).toArray⟩++b:=by rw [wrX,if_pos h]
 have hl:(wrX (a:Int) b++r).data.toList=wrL (a:Int) b.size++(b.data.toList++r.data.toList):=by
  rw [hx,ByteArray.data_append,ByteArray.data_append,Array.toList_append,Array.toList_append,List.append_assoc]
 have hbl:b.data.toList.length=b.size:=(Lib.size_eq b).symm
 obtain ⟨q0,qA,qN,qE⟩:=rd_list a b.size b.data.toList r.data.toList (by omega) (by omega) hbl hz
 have hw:wrL ((a:Nat):Int) b.size=wrL a b.size:=rfl
 obtain ⟨g1,g2,g3,g4⟩:=rd_good (wrX (a:Int) b++r) (by rw [hl];exact qE)
 rw [hl,q0] at g1;rw [hl,qA,qN] at g2 g3
 refine ⟨g1,?_,?_,g4⟩
 ·rw [g2,ext_of _ _ _ b.data.toList,mk_data]
  rw [hl,List.drop_left,Nat.add_sub_cancel_left,← hbl,List.take_left]
 ·rw [g3,ext_of _ _ _ r.data.toList,mk_data]
  rw [hl,← List.append_assoc,List.drop_left' (by rw [List.length_append,hbl]),List.take_of_length_le]
  have:(wrX (a:Int) b++r).size=(wrX (a:Int) b++r).data.toList.length:=Lib.size_eq _
  rw [this,hl,List.length_append,List.length_append,hbl]
  omega
end
section
open Go.RowKit Go.Sort
def byt8 (n:Int) (j:Nat):UInt8:=UInt8.ofNat (n / 256^(7-j)%256).toNat
def b8L (n:Int):List UInt8:=(List.range 8).map fun j=>byt8 n j
theorem qbt (n:Int):(b8L n).length=8:=by simp [b8L]
def qbB:List UInt8→List UInt8
 | x :: y :: r=>if (x.toNat=0∧y.toNat<128)∨(x.toNat=255∧128≤y.toNat) then qbB (y :: r) else x :: y :: r
 | l=>l
def intB (n:Int):ByteArray:=⟨(qbB (b8L n)).toArray⟩
theorem b8L_snoc (n:Int) (k:Nat) (h:k<8):(b8L n).take (k+1)=(b8L n).take k++[byt8 n k]:=by
 rw [b8L,← List.map_take,← List.map_take,List.take_range,List.take_range,Nat.min_eq_left (by omega),Nat.min_eq_left (by omega),List.range_succ,List.map_append]
 rfl
theorem byt8_val (n:Int) (k:Nat):((byt8 n k).toNat:Int)=n / 256^(7-k)%256:=by
 rw [byt8,UInt8.toNat_ofNat']
 have h:=Int.emod_nonneg (n / 256^(7-k)) (show (256:Int)≠0 by decide)
 have h2:=Int.emod_lt_of_pos (n / 256^(7-k)) (show (0:Int)<256 by decide)
 omega
theorem pow_shift (k:Nat) (h:k<8):(2:Int)^(8*(7-k))=256^(7-k):=by
 rw [show (256:Int)=2^8 from rfl,← Int.pow_mul]
set_option maxHeartbeats 4000000 in
theorem rIntLoop_any (n:Int) (w:World) (h0:-9223372036854775808≤n) (h1:n≤9223372036854775807) :
  Calls Tryz.prog 64 #[.int .i64 n] w fun e w'=>e=.returned (.string (wrX 2 (intB n)))∧Below w.heap.size w w':=by
 obtain ⟨i0,hi,hz0,hz1,hz2⟩:=info_parts qcz;have hb:=Below.refl w.heap.size w
 go_enter Tryz.func64,Tryz.ntmps64
 go_wp2_with fail
 generalize hBB:w.heap.size=B at *;have HBB:=hid hBB;clear hBB
 go_loopw [3,4] (fun ov iv wr=>∃ (k:Nat) (ao:Option Addr) (cp:Nat),k≤8∧iv=.int .i64 (7-(k:Int))∧ov=.slice ao k cp∧Own wr B (.slice ao k cp) (Lib.byteCells ((b8L n).take k))∧Below B w wr∧B≤wr.heap.size) (fun _ iv _=>(intOf iv+1).toNat)
 case atStart=>exact ⟨0,none,0,by omega,rfl,rfl,Own.nil _ _,hb,by rw [← HBB.out];exact hb.size⟩
 case round=>
  clear hb;obtain ⟨k,ao,cp,hk,rfl,rfl,hown,hb,hB⟩:=hrel;have HO:=hid hown;clear hown
  have HL:=hid (show (Lib.byteCells ((b8L n).take k)).length=k from by rw [Lib.byteCells_length,List.length_take,qbt];omega)
  by_cases hlt:k<8
  ·obtain ⟨i,hii⟩:∃ i,i=7-k:=⟨_,rfl⟩
   have hi7:(7:Int)-(k:Int)=(i:Int):=by omega
   have hd:decide ((0:Int)≤(i:Int))=true:=by simp
   have HSn:=hid (b8L_snoc n k hlt);have HV:=hid (byt8_val n k);have hps:=pow_shift k hlt;rw [← hii] at hps HV
   have hs0:(0:Int)≤8*(i:Int):=by omega
   have hw8:IntKind.i64.wrap (8*(i:Int))=8*(i:Int):=by rw [IntKind.wrap_i64];omega
   have hT:((8:Int)*(i:Int)).toNat=8*i:=by omega
   rw [hi7]
   go_wp2_with (at_builtin;refine qaI rfl (.tmp 11) (.tmp 17) 41 rfl B 5 i0 (.int .u8 0) 1 Tryz.underlying41 hi hz0 hz1 hz2 rfl ao k cp _ rfl (HO.out.alloc _) HL.out ⟨_,0,none⟩ 1 1 [.int .u8 _] rfl rfl (cell_one_new _ _ _) ?p2 ?p3 ?p4 ?p5 ?_)
   case p2=>intro u hu;simp at hu;subst hu;rfl
   case p3=>omega
   case p4=>omega
   case p5=>simp;omega
   intro ao7 cp7 W7 hown7 hgrow7
   have hb7:Below B wr W7:=qa9 ((Below.refl B wr).alloc hB _) (by simp;omega) (HO.out.alloc _) hgrow7
   have hB7:B≤W7.heap.size:=by have:=hgrow7.size;simp at this;omega
   have hown8:Own W7 B (.slice ao7 (k+1) cp7) (Lib.byteCells ((b8L n).take (k+1))):=by
    rw [HSn.out,Lib.byteCells_append]
    have e:Lib.byteCells [byt8 n k]=[.int .u8 (n / 2^(8*(7-k))%256)]:=by simp only [Lib.byteCells,List.map_cons,List.map_nil,byt8_val,pow_shift k hlt]
    rw [e];exact hown7
   have hb8:=hb.trans hb7;clear hown7 hgrow7 HO HSn HV HL hps hs0 hw8 hT hb hb7 hii
   go_wp2_with fail
   go_roundw
   case rel=>exact ⟨k+1,ao7,cp7,by omega,by go_num,rfl,hown8,hb8,hB7⟩
   case measure=>simp [intOf];omega
  ·have hd:decide ((0:Int)≤(7:Int)-(k:Int))=false:=by simp;omega
   obtain rfl:k=8:=by omega
   have hown:=HO.out
   rw [List.take_of_length_le (by rw [qbt];exact Nat.le_refl _)] at hown
   obtain ⟨g,cp1,e1,hoG,_⟩:=hown.some (by rw [Lib.byteCells_length,qbt];decide)
   rw [Lib.byteCells_length,qbt] at e1
   cases e1
   have hcp:8≤cp:=by have:=hoG.le;rwa [Lib.byteCells_length,qbt] at this
   have HG:=hid hoG;have HLN:=hid (qbt n);have HIB:Hid (intB n=⟨(qbB (b8L n)).toArray⟩):=hid rfl;generalize b8L n=L at *;generalize hio:intB n=ib at *;have HIO:=hid hio;clear hio;clear HO HL hown hoG hd
   go_wp2_with fail
   go_loopw [3] (fun ov wr2=>∃ (j m c:Nat),j+m=8∧1≤m∧m≤c∧ov=.slice (some ⟨g,j,none⟩) m c∧Hid (qbB (L.drop j)=qbB L)∧wr2=wr) (fun ov _=>(match ov with | .slice _ m _=>m | _=>0))
   case atStart=>exact ⟨0,8,cp,rfl,by omega,hcp,rfl,hid rfl,rfl⟩
   case round=>
    obtain ⟨j,m,c,hjm,hm1,hmc,rfl,HT,rfl⟩:=hrel
    have hj:j<L.length:=by rw [HLN.out];omega
    have HD:Hid (L.drop j=L.getD j 0 :: L.drop (j+1)):=hid (by rw [List.drop_eq_getElem_cons hj,List.getD_eq_getElem?_getD,List.getElem?_eq_getElem hj];rfl)
    have HX:=hid (qdk wr g j c m (L.drop j) (by rw [List.length_drop,HLN.out];omega) (fun i x hx=>by
     rw [List.getElem?_drop] at hx
     exact HG.out.cells (j+i) _ (by simp [Lib.byteCells,hx])))
    by_cases c1:m=1
    ·subst c1
     have d1:decide ((1:Int)<((1:Nat):Int))=false:=by simp
     have ht:=HX.out
     have hd1:L.drop (j+1)=[]:=List.drop_of_length_le (by rw [HLN.out];omega)
     have HF:Hid ((⟨(L.drop j).toArray⟩:ByteArray)=ib):=hid (by rw [HIB.out,← HT.out,HD.out,hd1];rfl)
     rw [HF.out] at ht
     have CW:=hid (fun W=>qcZ 2 ib W (by decide) (by decide))
     have HXO:Hid (wrX 2 ib=wrX 2 (intB n)):=hid (by rw [HIO.out])
     generalize wrX 2 ib=xo at *;generalize wrE 2 ib=xe at *;clear HF HIB HG HLN HX HD HT hd1 hj
     go_wp2_with fail
     refine (CW.out _).mono ?_
     rintro e W1 ⟨rfl,bk⟩;replace hb:=hb.trans (bk.mono hB);clear bk CW
     go_wp2_with fail
     go_ret
     exact ⟨by first | (rw [← HXO.out];done) | (rw [← HXO.out];rfl),by rw [HBB.out];exact hb⟩
    ·have d1:decide ((1:Int)<(m:Int))=true:=by simp;omega
     have hj1:j+1<L.length:=by rw [HLN.out];omega
     have HD1:Hid (L.drop (j+1)=L.getD (j+1) 0 :: L.drop (j+2)):=hid (by rw [List.drop_eq_getElem_cons hj1,List.getD_eq_getElem?_getD,List.getElem?_eq_getElem hj1];rfl)
     have k0:wr.cell? ⟨g,j,none⟩=some (.int .u8 ((L.getD j 0).toNat:Int)):=(qca HG.out j hj).1;have k1:wr.cell? ⟨g,j+1,none⟩=some (.int .u8 ((L.getD (j+1) 0).toNat:Int)):=(qca HG.out (j+1) hj1).1;have hx256:=(L.getD j 0).toNat_lt;have hy256:=(L.getD (j+1) 0).toNat_lt
     have HC:Hid (qbB (L.drop j)=if ((L.getD j 0).toNat=0∧(L.getD (j+1) 0).toNat<128)∨((L.getD j 0).toNat=255∧128≤(L.getD (j+1) 0).toNat) then qbB (L.drop (j+1)) else L.drop j):=hid (by rw [HD.out,HD1.out,qbB])
     generalize (L.getD j 0).toNat=x at k0 hx256 HC;generalize (L.getD (j+1) 0).toNat=y at k1 hy256 HC
     have hi0:(0:Int)<(m:Int):=by omega
     have hi1:(1:Int)<(m:Int):=by omega
     have hi2:(1:Int)≤(m:Int):=by omega
     by_cases a0:x=0
     ·have f0:((x:Int)==0)=true:=by simp;omega
      have f1:((x:Int)==255)=false:=by simp;omega
      by_cases a1:y<128
      ·have f2:decide ((y:Int)<128)=true:=by simp;omega
       have HT2:=hid ((show qbB (L.drop j)=qbB (L.drop (j+1)) by rw [HC.out,if_pos (by omega)]).symm.trans HT.out)
       clear HC HT HX HD HD1 hj hj1
       go_wp2_with fail
       go_roundw
       case rel=>exact ⟨j+1,m-1,c-1,by omega,by omega,by omega,by go_num,HT2,by first | rfl | trivial⟩
       case measure=>simp;omega
      ·have f2:decide ((y:Int)<128)=false:=by simp;omega
       have ht:=HX.out
       have HF:Hid ((⟨(L.drop j).toArray⟩:ByteArray)=ib):=hid (by rw [HIB.out,← HT.out,HC.out,if_neg (by omega)])
       rw [HF.out] at ht;clear HC HT HX HD HD1 hj hj1
       have CW:=hid (fun W=>qcZ 2 ib W (by decide) (by decide))
       have HXO:Hid (wrX 2 ib=wrX 2 (intB n)):=hid (by rw [HIO.out])
       generalize wrX 2 ib=xo at *;generalize wrE 2 ib=xe at *;clear HF HIB HG HLN
       go_wp2_with fail
       refine (CW.out _).mono ?_
       rintro e W1 ⟨rfl,bk⟩;replace hb:=hb.trans (bk.mono hB);clear bk CW
       go_wp2_with fail
       go_ret
       exact ⟨by first | (rw [← HXO.out];done) | (rw [← HXO.out];rfl),by rw [HBB.out];exact hb⟩
     have f0:((x:Int)==0)=false:=by simp;omega
     by_cases a2:x=255
     ·have f1:((x:Int)==255)=true:=by simp;omega
      by_cases a1:128≤y
      ·have f2:decide (128≤(y:Int))=true:=by simp;omega
       have HT2:=hid ((show qbB (L.drop j)=qbB (L.drop (j+1)) by rw [HC.out,if_pos (by omega)]).symm.trans HT.out)
       clear HC HT HX HD HD1 hj hj1
       go_wp2_with fail
       go_roundw
       case rel=>exact ⟨j+1,m-1,c-1,by omega,by omega,by omega,by go_num,HT2,by first | rfl | trivial⟩
       case measure=>simp;omega
      ·have f2:decide (128≤(y:Int))=false:=by simp;omega
       have ht:=HX.out
       have HF:Hid ((⟨(L.drop j).toArray⟩:ByteArray)=ib):=hid (by rw [HIB.out,← HT.out,HC.out,if_neg (by omega)])
       rw [HF.out] at ht;clear HC HT HX HD HD1 hj hj1
       have CW:=hid (fun W=>qcZ 2 ib W (by decide) (by decide))
       have HXO:Hid (wrX 2 ib=wrX 2 (intB n)):=hid (by rw [HIO.out])
       generalize wrX 2 ib=xo at *;generalize wrE 2 ib=xe at *;clear HF HIB HG HLN
       go_wp2_with fail
       refine (CW.out _).mono ?_
       rintro e W1 ⟨rfl,bk⟩;replace hb:=hb.trans (bk.mono hB);clear bk CW
       go_wp2_with fail
       go_ret
       exact ⟨by first | (rw [← HXO.out];done) | (rw [← HXO.out];rfl),by rw [HBB.out];exact hb⟩
     ·have f1:((x:Int)==255)=false:=by simp;omega
      have ht:=HX.out
      have HF:Hid ((⟨(L.drop j).toArray⟩:ByteArray)=ib):=hid (by rw [HIB.out,← HT.out,HC.out,if_neg (by omega)])
      rw [HF.out] at ht;clear HC HT HX HD HD1 hj hj1
      have CW:=hid (fun W=>qcZ 2 ib W (by decide) (by decide))
      have HXO:Hid (wrX 2 ib=wrX 2 (intB n)):=hid (by rw [HIO.out])
      generalize wrX 2 ib=xo at *;generalize wrE 2 ib=xe at *;clear HF HIB HG HLN
      go_wp2_with fail
      refine (CW.out _).mono ?_
      rintro e W1 ⟨rfl,bk⟩;replace hb:=hb.trans (bk.mono hB);clear bk CW
      go_wp2_with fail
      go_ret
      exact ⟨by first | (rw [← HXO.out];done) | (rw [← HXO.out];rfl),by rw [HBB.out];exact hb⟩
end
section
theorem rdB_cons (x:UInt8) (l:List UInt8) (k:Nat):rdB (x :: l) (k+1)=rdB l k:=by
 rw [rdB,rdB,List.getD_cons_succ]
theorem rdB_zero (x:UInt8) (l:List UInt8):rdB (x :: l) 0=x.toNat:=rfl
theorem riN_zero (l:List UInt8):riN l 0=if 128≤rdB l 0 then -1 else 0:=rfl
theorem qeg (l:List UInt8) (k:Nat):riN l (k+1)=riN l k*256+(rdB l k:Int):=rfl
theorem riN_tail (x y:UInt8) (r:List UInt8) (h:(x.toNat=0∧y.toNat<128)∨(x.toNat=255∧128≤y.toNat)):∀ k,riN (x :: y :: r) (k+1)=riN (y :: r) k
 | 0=>by
  rw [qeg,riN_zero,riN_zero,rdB_zero,rdB_zero]
  rcases h with ⟨h1,h2⟩ | ⟨h1,h2⟩
  ·rw [h1,if_neg (by omega),if_neg (by omega)];rfl
  ·rw [h1,if_pos (by omega),if_pos (by omega)];rfl
 | k+1=>by rw [qeg,riN_tail x y r h k,rdB_cons,← qeg]
theorem qez (x y:UInt8) (r:List UInt8):qbB (x :: y :: r)=if (x.toNat=0∧y.toNat<128)∨(x.toNat=255∧128≤y.toNat) then qbB (y :: r) else x :: y :: r:=rfl
theorem trim_val:∀ (l:List UInt8),riN (qbB l) (qbB l).length=riN l l.length
 | []=>rfl
 | [x]=>rfl
 | x :: y :: r=>by
  rw [qez]
  split
  ·rename_i h
   rw [trim_val (y :: r)];exact (riN_tail x y r h (y :: r).length).symm
  ·rfl
theorem trim_size:∀ (l:List UInt8),(qbB l).length≤l.length∧(l≠[]→qbB l≠[])
 | []=>⟨Nat.le_refl _,fun h=>h⟩
 | [x]=>⟨Nat.le_refl _,fun h=>h⟩
 | x :: y :: r=>by
  rw [qez]
  split
  ·have h:=trim_size (y :: r)
   exact ⟨Nat.le_trans h.1 (by simp),fun _=>h.2 (by simp)⟩
  ·exact ⟨Nat.le_refl _,fun _=>by simp⟩
theorem riBad_two (x y:UInt8) (r:List UInt8):riBad (x :: y :: r)↔(x.toNat=0∧y.toNat<128)∨(x.toNat=255∧128≤y.toNat):=
 ⟨fun h=>h.2,fun h=>⟨by simp,h⟩⟩
theorem trim_good:∀ (l:List UInt8),¬ riBad (qbB l)
 | []=>fun h=>by have:=h.1;simp [qbB] at this
 | [x]=>fun h=>by have:=h.1;simp [qbB] at this
 | x :: y :: r=>by
  rw [qez]
  split
  ·exact trim_good (y :: r)
  ·rename_i h
   rwa [riBad_two]
theorem riN_range (l:List UInt8) (k:Nat) (h:k+1=l.length):-(128*256^k:Nat)≤riN l l.length∧riN l l.length<(128*256^k:Nat):=by
 rw [← h];exact riN_bound l k
theorem b8L_at (n:Int) (k:Nat) (h:k<8):(rdB (b8L n) k:Int)=n / 256^(7-k)%256:=by
 rw [← byt8_val,rdB,b8L,List.getD_eq_getElem?_getD,List.getElem?_map,List.getElem?_range h]
 rfl
theorem b8L_val (n:Int) (h0:-9223372036854775808≤n) (h1:n≤9223372036854775807):∀ k,k<8→riN (b8L n) (k+1)=n / 256^(7-k)
 | 0,_=>by
  have a:=b8L_at n 0 (by omega)
  have e:(256:Int)^(7-0)=72057594037927936:=by decide
  rw [qeg,riN_zero,e] at *
  split <;> omega
 | k+1,h=>by
  have ih:=b8L_val n h0 h1 k (by omega)
  rw [qeg,ih,b8L_at n (k+1) h]
  have e:(256:Int)^(7-k)=256^(7-(k+1))*256:=by rw [show 7-k=(7-(k+1))+1 by omega,Int.pow_succ]
  rw [e,← Int.ediv_ediv_of_nonneg (Int.pow_nonneg (by decide))]
  omega
theorem intB_facts (n:Int) (h0:-9223372036854775808≤n) (h1:n≤9223372036854775807):1≤(intB n).data.toList.length∧(intB n).data.toList.length≤8∧¬ riBad (intB n).data.toList∧riN (intB n).data.toList (intB n).data.toList.length=n:=by
 have e:(intB n).data.toList=qbB (b8L n):=rfl;rw [e];have hs:=trim_size (b8L n)
 have hne:b8L n≠[]:=fun h=>by have:=qbt n;rw [h] at this;cases this
 refine ⟨?_,?_,trim_good _,?_⟩
 ·have:=List.length_pos_iff.2 (hs.2 hne);omega
 ·have:=hs.1;rw [qbt] at this;exact this
 ·rw [trim_val,qbt,b8L_val n h0 h1 7 (by omega)]
  simp
theorem qfm (n:Int):(intB n).size≤8:=by
 have h:=(trim_size (b8L n)).1;rw [qbt] at h;exact h
theorem int_back (n:Int) (h0:-9223372036854775808≤n) (h1:n≤9223372036854775807):riErr (intB n)=0∧riV (intB n)=n:=by
 obtain ⟨a,b,c,d⟩:=intB_facts n h0 h1
 have e:riE (intB n).data.toList=0:=by rw [riE,if_neg (by omega),if_neg c,if_neg (by omega)]
 exact ⟨e,by rw [riV,if_pos e,d]⟩
theorem ri_range (s:ByteArray):-9223372036854775808≤riV s∧riV s≤9223372036854775807:=by
 rw [riV]
 split
 ·rename_i h
  rw [riE] at h
  split at h
  ·cases h
  split at h
  ·cases h
  split at h
  ·cases h
  rename_i a b c
  obtain ⟨k,hk⟩:∃ k,k+1=s.data.toList.length:=⟨s.data.toList.length-1,by omega⟩
  have r:=riN_range _ k hk
  have hp:256^k≤256^7:=Nat.pow_le_pow_right (by decide) (by omega)
  have e7:(256:Nat)^7=72057594037927936:=by decide
  omega
 ·omega
theorem int_wr (n:Int):wrE 2 (intB n)=0:=by
 have:=qfm n
 rw [wrE,if_pos (by decide),if_pos (by omega)]
end
section
def hiL:Nat→Nat→List UInt8
 | 0,_=>[]
 | f+1,n=>if n=0 then [] else hiL f (n / 128)++[UInt8.ofNat (128+n%128)]
def grL (n:Nat):List UInt8:=hiL 9 (n / 128)++[UInt8.ofNat (n%128)]
theorem hiL_zero (f:Nat):hiL f 0=[]:=by cases f <;> rfl
theorem hiL_length:∀ (f n:Nat),(hiL f n).length≤f
 | 0,_=>Nat.le_refl _
 | f+1,n=>by
  rw [hiL]
  split
  ·simp
  ·have:=hiL_length f (n / 128)
   rw [List.length_append]
   simp
   exact this
theorem qeM (n:Nat):1≤(grL n).length∧(grL n).length≤10:=by
 have:=hiL_length 9 (n / 128)
 rw [grL,List.length_append]
 simp
 omega
def qbC (zs:List Int):Int:=
 if zs.length<2 then 1 else if (zs.any fun z=>decide (z<0))=true then 1 else
  if 2<zs.getD 0 0∨(zs.getD 0 0<2∧39<zs.getD 1 0)∨1000000<zs.getD 1 0 then 1 else
   if 20<zs.length then 13 else if ((zs.drop 2).any fun z=>decide (268435455<z))=true then 13 else 0
def restL (zs:List Int):List UInt8:=zs.flatMap fun z=>grL z.toNat
def oidL (zs:List Int):List UInt8:=grL (40*zs.getD 0 0+zs.getD 1 0).toNat++restL (zs.drop 2)
def oidB (zs:List Int):ByteArray:=⟨(oidL zs).toArray⟩
def oidX (zs:List Int):ByteArray:=if qbC zs=0 then wrX 6 (oidB zs) else ⟨#[]⟩
theorem qe4:∀ (zs:List Int),(restL zs).length≤10*zs.length
 | []=>Nat.le_refl _
 | z :: r=>by
  have:=qe4 r;have:=(qeM z.toNat).2
  rw [restL,List.flatMap_cons,List.length_append,List.length_cons,← restL]
  omega
theorem qfn (zs:List Int) (h:zs.length≤20):(oidB zs).size≤210:=by
 have a:=qe4 (zs.drop 2);have b:=(qeM (40*zs.getD 0 0+zs.getD 1 0).toNat).2;rw [List.length_drop] at a
 show (oidL zs).length≤210
 rw [oidL,List.length_append]
 omega
theorem oid_wr (zs:List Int) (h:zs.length≤20):wrE 6 (oidB zs)=0:=by
 have:=qfn zs h
 rw [wrE,if_pos (by decide),if_pos (by omega)]
end
section
open Go.RowKit Go.Sort
def IntsAt (W:World) (ao:Option Addr) (zs:List Int):Prop:=∀ j,j<zs.length→∃ g off,ao=some ⟨g,off,none⟩∧W.cell? ⟨g,off+j,none⟩=some (.int .i64 (zs.getD j 0))
theorem IntsAt.step {W W':World} {ao:Option Addr} {zs:List Int} (h:IntsAt W ao zs) (hb:Below W.heap.size W W'):IntsAt W' ao zs:=fun j hj=>by
 obtain ⟨g,off,ha,hc⟩:=h j hj;exact ⟨g,off,ha,(hb.cell (block_lt_of_cell hc)).trans hc⟩
def iCells (zs:List Int):List Value:=zs.map fun z=>.int .i64 z
theorem qaf {P:Program} {w:World} {v:Value} {r:Result Next} (h:qac P w v r):qan P w (Told.val v) r:=by
 cases r with
 | ok n w'=>
  cases n <;> simp only [qac] at h <;> simp only [qan]
  case value u=>obtain ⟨rfl,rfl⟩:=h;exact ⟨Below.refl _ _,rfl⟩
  case enter f args=>
   obtain ⟨rfl,hc⟩:=h
   exact ⟨rfl,hc.mono fun e w'' ⟨he,hb⟩=>⟨v,he,rfl,hb⟩⟩
 | halt x w'=>simp only [qac] at h
end
section
open Go.RowKit Go.Sort
theorem byteC (k:Nat) (h:k<256):Lib.byteCells [UInt8.ofNat k]=[.int .u8 (k:Int)]:=by
 simp only [Lib.byteCells,List.map_cons,List.map_nil,qcF k h]
theorem group_step (m:Nat) (h:0<m):∀ f,m<128^f→∃ f',f=f'+1∧hiL f m=hiL f' (m / 128)++[UInt8.ofNat (128+m%128)]∧m / 128<128^f'
 | 0,hm=>by simp at hm;omega
 | f+1,hm=>⟨f,rfl,by rw [hiL,if_neg (by omega)],by rw [Nat.pow_succ] at hm;omega⟩
set_option maxHeartbeats 4000000 in
theorem rgroup_any (n:Nat) (w:World) (hn:n<9223372036854775808) :
  Calls Tryz.prog 177 #[.int .i64 (n:Int)] w fun e w'=>e=.returned (.string ⟨(grL n).toArray⟩)∧Below w.heap.size w w':=by
 obtain ⟨i0,hi,hz0,hz1,hz2⟩:=info_parts qcz;have hb:=Below.refl w.heap.size w
 have e8:(128:Nat)^9=9223372036854775808:=by decide
 have HO0:=hid (show (w.alloc (.cells #[.int .u8 ((n:Int)%128)] 5)).ownsRow w.heap.size 5 1 (.slice (some ⟨w.heap.size,0,none⟩) 1 1) 1 [.int .u8 ((n:Int)%128)] from
  ⟨rfl,.inr ⟨w.heap.size,1,_,rfl,Nat.le_refl _,qag w _,by omega,by unfold maxLen;omega,rfl,rfl⟩⟩)
 have hb1:Below w.heap.size w (w.alloc (.cells #[.int .u8 ((n:Int)%128)] 5)):=hb.alloc hb.size _;have hsz1:w.heap.size≤(w.alloc (.cells #[.int .u8 ((n:Int)%128)] 5)).heap.size:=hb1.size
 have HOw:Hid (Own (w.alloc (.cells #[.int .u8 ((n:Int)%128)] 5)) w.heap.size (.slice (some ⟨w.heap.size,0,none⟩) 1 1) (Lib.byteCells [UInt8.ofNat (n%128)])):=hid (by
  rw [byteC _ (by omega),show ((n%128:Nat):Int)=(n:Int)%128 by simp]
  exact (qcX HO0.out).1)
 have HG:Hid (hiL 9 (n / 128)++[UInt8.ofNat (n%128)]=grL n):=hid rfl;clear HO0
 go_enter Tryz.func177,Tryz.ntmps177
 go_wp2_with fail
 generalize (w.alloc _)=W0 at *;generalize hBB:w.heap.size=B at *;have HBB:=hid hBB;clear hBB;obtain ⟨G,hGG⟩:∃ G,grL n=G:=⟨_,rfl⟩;rw [hGG] at HG;have HGG:=hid hGG;clear hGG
 go_loopw [0,3,4] (fun nv ov mv wr=>∃ (m f:Nat) (ao:Option Addr) (cp k:Nat) (l:List UInt8),m≤n∧l.length=k∧k+f≤10∧m<128^f∧Hid (hiL f m++l=G)∧nv=.int .i64 (m:Int)∧ov=.slice ao k cp∧Own wr B (.slice ao k cp) (Lib.byteCells l)∧1≤k∧Below B w wr∧B≤wr.heap.size) (fun nv _ _ _=>(intOf nv).toNat)
 case atStart=>exact ⟨n / 128,9,_,1,1,[UInt8.ofNat (n%128)],by omega,rfl,by omega,by omega,HG,by simp,rfl,HOw.out,by omega,hb1,hsz1⟩
 case round=>
  clear hb hb1 HOw HG hsz1;obtain ⟨m,f,ao,cp,k,l,hmn,hl,hkf,hm,HG,rfl,rfl,hown,hk1,hb,hB⟩:=hrel;have HO:=hid hown;clear hown
  have HL:=hid (show (Lib.byteCells l).length=k by rw [Lib.byteCells_length];exact hl)
  by_cases h0:0<m
  ·have hd:decide ((0:Int)<(m:Int))=true:=by simp;omega
   obtain ⟨f',rfl,e1,e2⟩:=group_step m h0 f hm
   have hw:IntKind.u8.wrap (128+(m:Int)%128)=128+(m:Int)%128:=by rw [IntKind.wrap_u8];omega
   have HG2:Hid (hiL f' (m / 128)++(UInt8.ofNat (128+m%128) :: l)=G):=hid (by rw [← HG.out,e1,List.append_assoc];rfl)
   have HC:Hid (Lib.byteCells [UInt8.ofNat (128+m%128)]=[.int .u8 (128+(m:Int)%128)]):=hid (by rw [byteC _ (by omega)];simp)
   clear e1 HG;generalize UInt8.ofNat (128+m%128)=bb at *
   go_wp2_with (at_builtin;refine qaI rfl (.tmp 13) (.tmp 18) 41 rfl B 5 i0 (.int .u8 0) 1 Tryz.underlying41 hi hz0 hz1 hz2 rfl none 0 0 [] rfl (Own.nil _ _) rfl ⟨_,0,none⟩ 1 1 [.int .u8 _] rfl rfl (cell_one_new _ _ _) ?p2 ?p3 ?p4 ?p5 ?_)
   case p2=>intro u hu;simp at hu;subst hu;rfl
   case p3=>omega
   case p4=>omega
   case p5=>simp;omega
   intro ao7 cp7 W7 hown7 hgrow7
   have hb6:Below wr.heap.size wr W7:=((Below.refl wr.heap.size wr).alloc (Nat.le_refl _) _).grown hgrow7 (by simp) (fun k hk=>by simp [Value.ownBlock] at hk)
   have hown8:Own W7 B (.slice ao7 1 cp7) (Lib.byteCells [bb]):=by rw [HC.out];exact hown7
   have hb7:=hb.trans (hb6.mono hB);have hB7:B≤W7.heap.size:=Nat.le_trans hB hb6.size;have HO7:=hid (HO.out.below hb6);have HM:=hid hown8;clear hown7 hown8 hgrow7 HO hb
   obtain ⟨g,cq,e,hoG,_⟩:=HO7.out.some (by rw [HL.out];omega)
   rw [HL.out] at e
   cases e
   have HGc:=hid (show ∀ j u,(Lib.byteCells l)[j]?=some u→W7.cell? ((⟨g,0,none⟩:Addr).add j)=some u from fun j u hj=>by
    have hadd:(⟨g,0,none⟩:Addr).add j=⟨g,j,none⟩:=by unfold Addr.add;split <;> simp_all
    rw [hadd]
    exact hoG.cells j u hj)
   clear hoG HO7
   go_wp2_with (at_builtin;refine qaI rfl (.tmp 20) (.tmp 21) 41 rfl B 5 i0 (.int .u8 0) 1 Tryz.underlying41 hi hz0 hz1 hz2 rfl ao7 1 cp7 (Lib.byteCells [bb]) rfl HM.out rfl ⟨g,0,none⟩ k cp (Lib.byteCells l) rfl HL.out HGc.out ?q2 ?q3 ?q4 hB7 ?_)
   case q2=>intro u hu;simp [Lib.byteCells] at hu;obtain ⟨x,_,rfl⟩:=hu;rfl
   case q3=>omega
   case q4=>omega
   intro ao8 cp8 W8 hown9 hgrow8;have hb8:Below B w W8:=qa9 hb7 hB7 HM.out hgrow8;have hB8:B≤W8.heap.size:=Nat.le_trans hB7 hgrow8.size
   have hown10:Own W8 B (.slice ao8 (1+k) cp8) (Lib.byteCells (bb :: l)):=by
    rw [show bb :: l=[bb]++l from rfl,Lib.byteCells_append]
    exact hown9
   clear hown9 hgrow8 HM HGc HL HC hb7
   go_wp2_with fail
   go_roundw
   case rel=>exact ⟨m / 128,f',ao8,cp8,1+k,_,by omega,by simp;omega,by omega,e2,HG2,by go_num,rfl,hown10,by omega,hb8,hB8⟩
   case measure=>simp [intOf];omega
  ·obtain rfl:m=0:=by omega
   have hd:decide ((0:Int)<((0:Nat):Int))=false:=by simp
   obtain ⟨g,cq,e,hoG,_⟩:=HO.out.some (by rw [HL.out];omega)
   rw [HL.out] at e
   cases e
   have ht:=qcm hoG hl cp
   have HT:Hid (l=G):=hid (by rw [← HG.out,hiL_zero];rfl)
   obtain ⟨L,hL⟩:∃ L,(⟨l.toArray⟩:ByteArray)=L:=⟨_,rfl⟩
   have HLL:Hid (L=⟨(grL n).toArray⟩):=hid (by rw [← hL,HGG.out,HT.out])
   rw [hL] at ht;clear hL;clear hoG HO HL HG HT
   go_wp2_with fail
   go_ret
   exact ⟨by first | (rw [HLL.out];done) | (rw [HLL.out];rfl),by rw [HBB.out];exact hb⟩
end
section
open Go.RowKit Go.Sort
theorem qev (z:Int) (w:World) (h0:0≤z) (h1:z≤9223372036854775807) :
  Calls Tryz.prog 177 #[.int .i64 z] w fun e w'=>e=.returned (.string ⟨(grL z.toNat).toArray⟩)∧Below w.heap.size w w':=by
 have h:=rgroup_any z.toNat w (by omega)
 rwa [show ((z.toNat:Nat):Int)=z by omega] at h
theorem any_at (zs:List Int) (p:Int→Bool) (k:Nat) (hk:k<zs.length) (h:p (zs.getD k 0)=true):zs.any p=true:=by
 rw [List.any_eq_true]
 refine ⟨zs[k],List.getElem_mem hk,?_⟩
 rwa [List.getD_eq_getElem?_getD,List.getElem?_eq_getElem hk] at h
theorem any_none (zs:List Int) (p:Int→Bool) (h:∀ k,k<zs.length→p (zs.getD k 0)=false):¬ zs.any p=true:=by
 rw [List.any_eq_true];rintro ⟨x,hx,hp⟩;obtain ⟨k,hk,rfl⟩:=List.mem_iff_getElem.1 hx
 have:=h k hk
 rw [List.getD_eq_getElem?_getD,List.getElem?_eq_getElem hk] at this;rw [Option.getD_some] at this;rw [this] at hp
 cases hp
abbrev qce (zs:List Int):Prop:=2<zs.getD 0 0∨(zs.getD 0 0<2∧39<zs.getD 1 0)∨1000000<zs.getD 1 0
theorem oid_few (zs:List Int) (h:zs.length<2):qbC zs=1:=if_pos h
theorem oid_neg (zs:List Int) (h2:¬ zs.length<2) (k:Nat) (hk:k<zs.length) (h:zs.getD k 0<0):qbC zs=1:=by
 rw [qbC,if_neg h2,if_pos (any_at zs _ k hk (decide_eq_true h))]
theorem oid_arg (zs:List Int) (h2:¬ zs.length<2) (h:qce zs):qbC zs=1:=by
 rw [qbC,if_neg h2]
 by_cases q:(zs.any fun z=>decide (z<0))=true
 ·rw [if_pos q]
 ·rw [if_neg q,if_pos h]
theorem oid_many (zs:List Int) (h2:¬ zs.length<2) (hn:∀ k,k<zs.length→0≤zs.getD k 0) (hb:¬ qce zs) (h:20<zs.length):qbC zs=13:=by
 rw [qbC,if_neg h2,if_neg (any_none zs _ fun k hk=>decide_eq_false (by have:=hn k hk;omega)),if_neg hb,if_pos h]
theorem drop2_at (zs:List Int) (j:Nat):(zs.drop 2).getD j 0=zs.getD (2+j) 0:=by
 rw [List.getD_eq_getElem?_getD,List.getD_eq_getElem?_getD,List.getElem?_drop]
theorem oid_big (zs:List Int) (h2:¬ zs.length<2) (hn:∀ k,k<zs.length→0≤zs.getD k 0) (hb:¬ qce zs) (h:¬ 20<zs.length) (k:Nat) (h2k:2≤k) (hk:k<zs.length) (hz:268435455<zs.getD k 0):qbC zs=13:=by
 rw [qbC,if_neg h2,if_neg (any_none zs _ fun k hk=>decide_eq_false (by have:=hn k hk;omega)),if_neg hb,if_neg h,if_pos]
 refine any_at (zs.drop 2) _ (k-2) (by rw [List.length_drop];omega) ?_
 rw [drop2_at,show 2+(k-2)=k by omega]
 exact decide_eq_true hz
theorem oid_ok (zs:List Int) (h2:¬ zs.length<2) (hn:∀ k,k<zs.length→0≤zs.getD k 0) (hb:¬ qce zs) (h:¬ 20<zs.length) (hz:∀ k,2≤k→k<zs.length→zs.getD k 0≤268435455):qbC zs=0:=by
 rw [qbC,if_neg h2,if_neg (any_none zs _ fun k hk=>decide_eq_false (by have:=hn k hk;omega)),if_neg hb,if_neg h,if_neg]
 refine any_none (zs.drop 2) _ fun j hj=>?_
 rw [List.length_drop] at hj
 have:=hz (2+j) (by omega) (by omega)
 rw [drop2_at]
 exact decide_eq_false (by omega)
theorem qci (zs:List Int) (e:Int) (h:qbC zs=e) (he:e≠0):oidX zs=⟨#[]⟩∧qbC zs=e:=⟨if_neg (by rw [h];exact he),h⟩
def oidP (zs:List Int) (k:Nat):ByteArray:=⟨(grL (40*zs.getD 0 0+zs.getD 1 0).toNat++restL ((zs.drop 2).take (k-2))).toArray⟩
def grB (z:Int):ByteArray:=⟨(grL z.toNat).toArray⟩
theorem oidP_two (zs:List Int):oidP zs 2=grB (40*zs.getD 0 0+zs.getD 1 0):=by
 rw [oidP,grB,Nat.sub_self,List.take_zero,show restL []=[] from rfl,List.append_nil]
theorem oidP_succ (zs:List Int) (k:Nat) (h2:2≤k) (hk:k<zs.length):oidP zs (k+1)=oidP zs k++grB (zs.getD k 0):=by
 apply ByteArray.ext
 apply Array.toList_inj.1
 have hk2:k-2<(zs.drop 2).length:=by rw [List.length_drop];omega
 have e:(zs.drop 2)[k-2]=zs.getD k 0:=by
  rw [List.getElem_drop,List.getD_eq_getElem?_getD,List.getElem?_eq_getElem hk]
  simp only [show 2+(k-2)=k by omega]
  rfl
 rw [ByteArray.data_append,Array.toList_append]
 show grL _++restL ((zs.drop 2).take (k+1-2))=(grL _++restL ((zs.drop 2).take (k-2)))++grL (zs.getD k 0).toNat
 rw [show k+1-2=(k-2)+1 by omega,List.take_succ_eq_append_getElem hk2,e,restL,List.flatMap_append,List.flatMap_cons,List.flatMap_nil,List.append_nil,List.append_assoc]
 rfl
theorem oidP_end (zs:List Int):oidP zs zs.length=oidB zs:=by
 rw [oidP,oidB,oidL,List.take_of_length_le (by rw [List.length_drop];omega)]
theorem grB_size (z:Int):(grB z).size≤10:=(qeM z.toNat).2
theorem oidP_size (zs:List Int) (k:Nat) (h:k≤20):(oidP zs k).size≤210:=by
 have a:=qe4 ((zs.drop 2).take (k-2));have b:=(qeM (40*zs.getD 0 0+zs.getD 1 0).toNat).2;rw [List.length_take] at a
 show (grL _++restL _).length≤210
 rw [List.length_append]
 omega
set_option maxHeartbeats 16000000 in
theorem rOid_any (ao:Option Addr) (n c:Nat) (zs:List Int) (w:World) (hn:zs.length=n) (hm:n≤1000000) (hz:∀ k,-9223372036854775808≤zs.getD k 0∧zs.getD k 0≤9223372036854775807) (hi:IntsAt w ao zs) :
  Calls Tryz.prog 116 #[.slice ao n c] w fun e w'=>e=.returned (.tuple #[.string (oidX zs),.int .i64 (qbC zs)])∧Below w.heap.size w w':=by
 by_cases h2:n<2
 ·have d2:decide ((n:Int)<2)=true:=by simp;omega
  have HR:=hid (qci zs 1 (oid_few zs (by omega)) (by decide))
  have hb:=Below.refl w.heap.size w
  go_enter Tryz.func116,Tryz.ntmps116
  go_wp2_with fail
  go_ret2
  exact ⟨by rw [HR.out.1,HR.out.2];rfl,hb⟩
 have d2:decide ((n:Int)<2)=false:=by simp;omega
 have HN:=hid hn;have HZ:=hid hz;have HI:=hid hi;have hb:=Below.refl w.heap.size w
 obtain ⟨g,off,rfl,c0⟩:=hi 0 (by omega)
 obtain ⟨g1,off1,eg,c1⟩:=hi 1 (by omega)
 cases eg
 rw [Nat.add_zero] at c0
 have hp0:(0:Int)<(n:Int):=by omega
 have hp1:(1:Int)<(n:Int):=by omega
 have hq0:0<n:=by omega
 have hq1:1<n:=by omega
 clear hz hi
 go_enter Tryz.func116,Tryz.ntmps116
 go_wp2_with fail
 go_loopw [4] (fun iv wr=>∃ k:Nat,k≤n∧iv=.int .i64 (k:Int)∧(∀ j,j<k→0≤zs.getD j 0)∧w=wr) (fun iv _=>n-(intOf iv).toNat)
 case atStart=>exact ⟨0,by omega,rfl,fun j hj=>by omega,rfl⟩
 case round=>
  obtain ⟨k,hkn,rfl,hpre,rfl⟩:=hrel
  by_cases hlt:k<n
  ·have hd:decide ((k:Int)<(n:Int))=true:=by simp;omega
   have hkn':(k:Int)<(n:Int):=by omega
   obtain ⟨g',off',eg,cz⟩:=HI.out k (by rw [HN.out];exact hlt)
   cases eg
   have HPRE:=hid hpre;clear hpre c0 c1;generalize hzz:zs.getD k 0=z at cz
   by_cases hneg:z<0
   ·have dz:decide (z<0)=true:=by simp;omega
    have HR:=hid (qci zs 1 (oid_neg zs (by omega) k (by omega) (by rw [hzz];exact hneg)) (by decide))
    clear hzz
    go_wp2_with fail
    go_ret2
    exact ⟨by rw [HR.out.1,HR.out.2];rfl,hb⟩
   ·have dz:decide (z<0)=false:=by simp;omega
    have HPR2:Hid (∀ j,j<k+1→0≤zs.getD j 0):=hid (fun j h=>by
     by_cases c:j<k
     ·exact HPRE.out j c
     ·obtain rfl:j=k:=by omega
      rw [hzz];omega)
    clear hzz HPRE
    go_wp2_with fail
    go_roundw
    case rel=>exact ⟨k+1,by omega,by go_num,HPR2.out,by first | rfl | trivial⟩
    case measure=>simp [intOf];omega
  ·have hd:decide ((k:Int)<(n:Int))=false:=by simp;omega
   obtain rfl:n=k:=by omega
   have HNN:Hid (∀ j,j<zs.length→0≤zs.getD j 0):=hid (fun j h=>hpre j (by rw [← HN.out];exact h))
   have hx0:=hpre 0 (by omega)
   have hy0:=hpre 1 (by omega)
   have hx1:=HZ.out 0;have hy1:=HZ.out 1;clear hpre;generalize hx:zs.getD 0 0=x at c0 hx0 hx1;generalize hy:zs.getD 1 0=y at c1 hy0 hy1
   by_cases ca:2<x
   ·have t0:decide (2<x)=true:=(by first | (simp;done) | (simp;omega))
    have HR:=hid (qci zs 1 (oid_arg zs (by omega) (by rw [qce,hx,hy];omega)) (by decide))
    clear hx hy
    go_wp2_with fail
    go_ret2
    exact ⟨by rw [HR.out.1,HR.out.2];rfl,hb⟩
   by_cases cb:x<2
   ·by_cases cc:39<y
    ·have t0:decide (2<x)=false:=(by first | (simp;done) | (simp;omega));have t1:decide (x<2)=true:=(by first | (simp;done) | (simp;omega));have t2:decide (39<y)=true:=(by first | (simp;done) | (simp;omega))
     have HR:=hid (qci zs 1 (oid_arg zs (by omega) (by rw [qce,hx,hy];omega)) (by decide))
     clear hx hy
     go_wp2_with fail
     go_ret2
     exact ⟨by rw [HR.out.1,HR.out.2];rfl,hb⟩
    ·have t0:decide (2<x)=false:=(by first | (simp;done) | (simp;omega));have t1:decide (x<2)=true:=(by first | (simp;done) | (simp;omega));have t2:decide (39<y)=false:=(by first | (simp;done) | (simp;omega));have t3:decide (1000000<y)=false:=(by first | (simp;done) | (simp;omega))
     have hbad:¬ qce zs:=by rw [qce,hx,hy];omega
     by_cases h20:20<n
     ·have d20:decide ((20:Int)<(n:Int))=true:=by simp;omega
      have HR:=hid (qci zs 13 (oid_many zs (by omega) HNN.out hbad (by omega)) (by decide))
      go_wp2_with fail
      go_ret2
      exact ⟨by rw [HR.out.1,HR.out.2];rfl,hb⟩
     have d20:decide ((20:Int)<(n:Int))=false:=by simp;omega
     have h40:0≤40*x∧40*x≤80:=by omega
     have hs0:0≤40*x+y∧40*x+y≤1000080:=by omega
     have w40:wrap64 (40*x)=40*x:=by unfold wrap64;omega
     have ws0:wrap64 (40*x+y)=40*x+y:=by unfold wrap64;omega
     have u40:IntKind.i64.wrap (40*x)=40*x:=by rw [IntKind.wrap_i64];omega
     have us0:IntKind.i64.wrap (40*x+y)=40*x+y:=by rw [IntKind.wrap_i64];omega
     have CG0:=hid (fun W=>qev (40*x+y) W hs0.1 (by omega))
     rw [show (⟨(grL (40*x+y).toNat).toArray⟩:ByteArray)=oidP zs 2 by rw [oidP_two,hx,hy];rfl] at CG0
     obtain ⟨o2,ho2⟩:∃ o2,oidP zs 2=o2:=⟨_,rfl⟩;rw [ho2] at CG0;have HO2:=hid ho2;clear ho2
     go_wp2_with fail
     refine qaC 9 77 [(Told.val (.slice (some ⟨g,off,none⟩) n c),[0]),(Told.val (.pointer (some ⟨g,off,none⟩)),[46]),(Told.val (.int .i64 x),[47]),(Told.val (.int .i64 (40*x)),[48]),(Told.val (.slice (some ⟨g,off,none⟩) n c),[0]),(Told.val (.pointer (some ⟨g,off+1,none⟩)),[50]),(Told.val (.int .i64 y),[51]),(Told.val (.int .i64 (40*x+y)),[49,52]),(Told.val (.string o2),[53])]
      (by kernel_rfl) (by kernel_rfl) rfl ?_ ?_
     ·simp only [take_succ_cons,List.take_zero,qaW,and_true]
      refine ⟨?_,?_,?_,?_,?_,?_,?_,?_,?_⟩
      ·intro a w hb h
       have e0:a.tmps.getD 0 undef=.slice (some ⟨g,off,none⟩) n c:=h 0 (by simp)
       simp only [getD_eq_getD_getElem?] at e0
       refine qaf ?_
       simp [go_sem,e0,qac]
      ·intro a w hb h
       have e0:a.tmps.getD 46 undef=.slice (some ⟨g,off,none⟩) n c:=h 46 (by simp)
       simp only [getD_eq_getD_getElem?] at e0
       refine qaf ?_
       simp [go_sem,e0,qac,hp0,hq0]
      ·intro a w hb h
       have e0:a.tmps.getD 47 undef=.pointer (some ⟨g,off,none⟩):=h 47 (by simp)
       simp only [getD_eq_getD_getElem?] at e0
       have hc:=(hb.cell (block_lt_of_cell c0)).trans c0
       refine qaf ?_
       simp [go_sem,e0,qac,hc]
      ·intro a w hb h
       have e0:a.tmps.getD 48 undef=.int .i64 x:=h 48 (by simp)
       simp only [getD_eq_getD_getElem?] at e0
       refine qaf ?_
       simp [go_sem,e0,qac,w40,u40]
      ·intro a w hb h
       have e0:a.tmps.getD 0 undef=.slice (some ⟨g,off,none⟩) n c:=h 0 (by simp)
       simp only [getD_eq_getD_getElem?] at e0
       refine qaf ?_
       simp [go_sem,e0,qac]
      ·intro a w hb h
       have e0:a.tmps.getD 50 undef=.slice (some ⟨g,off,none⟩) n c:=h 50 (by simp)
       simp only [getD_eq_getD_getElem?] at e0
       refine qaf ?_
       simp [go_sem,e0,qac,hp1,hq1]
      ·intro a w hb h
       have e0:a.tmps.getD 51 undef=.pointer (some ⟨g,off+1,none⟩):=h 51 (by simp)
       simp only [getD_eq_getD_getElem?] at e0
       have hc:=(hb.cell (block_lt_of_cell c1)).trans c1
       refine qaf ?_
       simp [go_sem,e0,qac,hc]
      ·intro a w hb h
       have e0:a.tmps.getD 49 undef=.int .i64 (40*x):=h 49 (by simp)
       have e1:a.tmps.getD 52 undef=.int .i64 y:=h 52 (by simp)
       simp only [getD_eq_getD_getElem?] at e0 e1
       refine qaf ?_
       simp [go_sem,e0,e1,qac,ws0,us0]
      ·intro a w hb h
       have e0:a.tmps.getD 53 undef=.int .i64 (40*x+y):=h 53 (by simp)
       simp only [getD_eq_getD_getElem?] at e0
       refine qaf ?_
       simp [go_sem,e0,qac]
       exact CG0.out _
     simp only [take_succ_cons,List.take_zero,List.drop_succ_cons,List.drop_zero,qaX,Act.put,List.setIfInBounds_toArray,List.set_cons_succ,List.set_cons_zero]
     rintro X bk v46 q46 v47 q47 v48 q48 v49 q49 v50 q50 v51 q51 v52 q52 v53 q53 v54 q54;obtain rfl:=q46.symm;obtain rfl:=q47.symm;obtain rfl:=q48.symm;obtain rfl:=q49.symm;obtain rfl:=q50.symm;obtain rfl:=q51.symm;obtain rfl:=q52.symm;obtain rfl:=q53.symm;obtain rfl:=q54.symm;clear q46 q47 q48 q49 q50 q51 q52 q53 q54 CG0;replace hb:=hb.trans (bk.mono hb.size);clear bk c0 c1
     go_wp2_with fail
     go_loopw [5,6] (fun ov iv wr=>∃ k:Nat,2≤k∧k≤n∧iv=.int .i64 (k:Int)∧ov=.string (oidP zs k)∧(∀ j,2≤j→j<k→zs.getD j 0≤268435455)∧Below w.heap.size w wr) (fun _ iv _=>n-(intOf iv).toNat)
     case atStart=>exact ⟨2,by omega,by omega,rfl,by rw [HO2.out],fun j h1 h2=>by omega,hb⟩
     case round=>
      clear hb;obtain ⟨k,h2k,hkn,rfl,rfl,hpre,hb⟩:=hrel;have HPRE:=hid hpre;clear hpre
      by_cases hlt:k<n
      ·have hd:decide ((k:Int)<(n:Int))=true:=by simp;omega
       have hkn':(k:Int)<(n:Int):=by omega
       obtain ⟨g',off',eg,cz⟩:=(HI.out.step hb) k (by rw [HN.out];exact hlt)
       cases eg
       have hz0:=HNN.out k (by omega)
       have hz1:=HZ.out k
       have HS:=hid (oidP_succ zs k h2k (by omega))
       have hsz:=oidP_size zs k (by omega)
       have HZK:Hid (zs.getD k 0=zs.getD k 0):=hid rfl;generalize hzz:zs.getD k 0=z at cz hz0 hz1 HS
       by_cases hbig:268435455<z
       ·have dz:decide (268435455<z)=true:=by simp;omega
        have HR:=hid (qci zs 13 (oid_big zs (by omega) HNN.out hbad (by omega) k h2k (by omega) (by rw [hzz];exact hbig)) (by decide))
        clear HS hzz HZK;generalize oidP zs k=ok at *
        go_wp2_with fail
        go_ret2
        exact ⟨by rw [HR.out.1,HR.out.2];rfl,hb⟩
       ·have dz:decide (268435455<z)=false:=by simp;omega
        have CG:=hid (fun W=>qev z W hz0 (by omega))
        rw [show (⟨(grL z.toNat).toArray⟩:ByteArray)=grB z from rfl] at CG
        have hgs:=grB_size z
        have HPR2:Hid (∀ j,2≤j→j<k+1→zs.getD j 0≤268435455):=hid (fun j h1 h2=>by
         by_cases c:j<k
         ·exact HPRE.out j h1 c
         ·obtain rfl:j=k:=by omega
          rw [hzz];omega)
        obtain ⟨pk,hpk⟩:∃ pk,oidP zs k=pk:=⟨_,rfl⟩;obtain ⟨gk,hgk⟩:∃ gk,grB z=gk:=⟨_,rfl⟩;rw [hpk] at hsz;rw [hgk] at CG hgs
        have HS2:Hid (oidP zs (k+1)=pk++gk):=hid (by rw [HS.out,hpk,hgk])
        rw [hpk]
        have hsum:pk.size+gk.size≤9223372036854775807:=by omega
        clear HS HZK hzz hpk hgk HPRE
        go_wp2_with fail
        refine (CG.out _).mono ?_
        rintro e W1 ⟨rfl,bk⟩;replace hb:=hb.trans (bk.mono hb.size);clear bk CG
        go_wp2_with fail
        go_roundw
        case rel=>exact ⟨k+1,by omega,by omega,by go_num,by rw [HS2.out],HPR2.out,hb⟩
        case measure=>simp [intOf];omega
      ·have hd:decide ((k:Int)<(n:Int))=false:=by simp;omega
       obtain rfl:n=k:=by omega
       have hok:=oid_ok zs (by omega) HNN.out hbad (by omega) (fun j h1 h2=>HPRE.out j h1 (by omega))
       have hP:oidP zs n=oidB zs:=by rw [← HN.out];exact oidP_end zs
       have hbs:=qfn zs (by omega)
       rw [hP]
       have CW:=hid (fun W=>qcZ 6 (oidB zs) W (by decide) (by decide))
       rw [oid_wr zs (by omega)] at CW
       have HX:Hid (oidX zs=wrX 6 (oidB zs)):=hid (if_pos hok);have HOK:=hid hok;generalize wrX 6 (oidB zs)=xo at *;generalize oidB zs=ob at *;clear hok hP
       go_wp2_with fail
       refine (CW.out _).mono ?_
       rintro e W1 ⟨rfl,bk⟩;replace hb:=hb.trans (bk.mono hb.size);clear bk CW
       go_wp2_with fail
       go_ret2
       exact ⟨by rw [HX.out,HOK.out];rfl,hb⟩
   by_cases cd:1000000<y
   ·have t0:decide (2<x)=false:=(by first | (simp;done) | (simp;omega));have t1:decide (x<2)=false:=(by first | (simp;done) | (simp;omega));have t2:decide (1000000<y)=true:=(by first | (simp;done) | (simp;omega))
    have HR:=hid (qci zs 1 (oid_arg zs (by omega) (by rw [qce,hx,hy];omega)) (by decide))
    clear hx hy
    go_wp2_with fail
    go_ret2
    exact ⟨by rw [HR.out.1,HR.out.2];rfl,hb⟩
   ·have t0:decide (2<x)=false:=(by first | (simp;done) | (simp;omega));have t1:decide (x<2)=false:=(by first | (simp;done) | (simp;omega));have t2:decide (1000000<y)=false:=(by first | (simp;done) | (simp;omega))
    have hbad:¬ qce zs:=by rw [qce,hx,hy];omega
    by_cases h20:20<n
    ·have d20:decide ((20:Int)<(n:Int))=true:=by simp;omega
     have HR:=hid (qci zs 13 (oid_many zs (by omega) HNN.out hbad (by omega)) (by decide))
     go_wp2_with fail
     go_ret2
     exact ⟨by rw [HR.out.1,HR.out.2];rfl,hb⟩
    have d20:decide ((20:Int)<(n:Int))=false:=by simp;omega
    have h40:0≤40*x∧40*x≤80:=by omega
    have hs0:0≤40*x+y∧40*x+y≤1000080:=by omega
    have w40:wrap64 (40*x)=40*x:=by unfold wrap64;omega
    have ws0:wrap64 (40*x+y)=40*x+y:=by unfold wrap64;omega
    have u40:IntKind.i64.wrap (40*x)=40*x:=by rw [IntKind.wrap_i64];omega
    have us0:IntKind.i64.wrap (40*x+y)=40*x+y:=by rw [IntKind.wrap_i64];omega
    have CG0:=hid (fun W=>qev (40*x+y) W hs0.1 (by omega))
    rw [show (⟨(grL (40*x+y).toNat).toArray⟩:ByteArray)=oidP zs 2 by rw [oidP_two,hx,hy];rfl] at CG0
    obtain ⟨o2,ho2⟩:∃ o2,oidP zs 2=o2:=⟨_,rfl⟩;rw [ho2] at CG0;have HO2:=hid ho2;clear ho2
    go_wp2_with fail
    refine qaC 9 77 [(Told.val (.slice (some ⟨g,off,none⟩) n c),[0]),(Told.val (.pointer (some ⟨g,off,none⟩)),[46]),(Told.val (.int .i64 x),[47]),(Told.val (.int .i64 (40*x)),[48]),(Told.val (.slice (some ⟨g,off,none⟩) n c),[0]),(Told.val (.pointer (some ⟨g,off+1,none⟩)),[50]),(Told.val (.int .i64 y),[51]),(Told.val (.int .i64 (40*x+y)),[49,52]),(Told.val (.string o2),[53])]
     (by kernel_rfl) (by kernel_rfl) rfl ?_ ?_
    ·simp only [take_succ_cons,List.take_zero,qaW,and_true]
     refine ⟨?_,?_,?_,?_,?_,?_,?_,?_,?_⟩
     ·intro a w hb h
      have e0:a.tmps.getD 0 undef=.slice (some ⟨g,off,none⟩) n c:=h 0 (by simp)
      simp only [getD_eq_getD_getElem?] at e0
      refine qaf ?_
      simp [go_sem,e0,qac]
     ·intro a w hb h
      have e0:a.tmps.getD 46 undef=.slice (some ⟨g,off,none⟩) n c:=h 46 (by simp)
      simp only [getD_eq_getD_getElem?] at e0
      refine qaf ?_
      simp [go_sem,e0,qac,hp0,hq0]
     ·intro a w hb h
      have e0:a.tmps.getD 47 undef=.pointer (some ⟨g,off,none⟩):=h 47 (by simp)
      simp only [getD_eq_getD_getElem?] at e0
      have hc:=(hb.cell (block_lt_of_cell c0)).trans c0
      refine qaf ?_
      simp [go_sem,e0,qac,hc]
     ·intro a w hb h
      have e0:a.tmps.getD 48 undef=.int .i64 x:=h 48 (by simp)
      simp only [getD_eq_getD_getElem?] at e0
      refine qaf ?_
      simp [go_sem,e0,qac,w40,u40]
     ·intro a w hb h
      have e0:a.tmps.getD 0 undef=.slice (some ⟨g,off,none⟩) n c:=h 0 (by simp)
      simp only [getD_eq_getD_getElem?] at e0
      refine qaf ?_
      simp [go_sem,e0,qac]
     ·intro a w hb h
      have e0:a.tmps.getD 50 undef=.slice (some ⟨g,off,none⟩) n c:=h 50 (by simp)
      simp only [getD_eq_getD_getElem?] at e0
      refine qaf ?_
      simp [go_sem,e0,qac,hp1,hq1]
     ·intro a w hb h
      have e0:a.tmps.getD 51 undef=.pointer (some ⟨g,off+1,none⟩):=h 51 (by simp)
      simp only [getD_eq_getD_getElem?] at e0
      have hc:=(hb.cell (block_lt_of_cell c1)).trans c1
      refine qaf ?_
      simp [go_sem,e0,qac,hc]
     ·intro a w hb h
      have e0:a.tmps.getD 49 undef=.int .i64 (40*x):=h 49 (by simp)
      have e1:a.tmps.getD 52 undef=.int .i64 y:=h 52 (by simp)
      simp only [getD_eq_getD_getElem?] at e0 e1
      refine qaf ?_
      simp [go_sem,e0,e1,qac,ws0,us0]
     ·intro a w hb h
      have e0:a.tmps.getD 53 undef=.int .i64 (40*x+y):=h 53 (by simp)
      simp only [getD_eq_getD_getElem?] at e0
      refine qaf ?_
      simp [go_sem,e0,qac]
      exact CG0.out _
    simp only [take_succ_cons,List.take_zero,List.drop_succ_cons,List.drop_zero,qaX,Act.put,List.setIfInBounds_toArray,List.set_cons_succ,List.set_cons_zero]
    rintro X bk v46 q46 v47 q47 v48 q48 v49 q49 v50 q50 v51 q51 v52 q52 v53 q53 v54 q54;obtain rfl:=q46.symm;obtain rfl:=q47.symm;obtain rfl:=q48.symm;obtain rfl:=q49.symm;obtain rfl:=q50.symm;obtain rfl:=q51.symm;obtain rfl:=q52.symm;obtain rfl:=q53.symm;obtain rfl:=q54.symm;clear q46 q47 q48 q49 q50 q51 q52 q53 q54 CG0;replace hb:=hb.trans (bk.mono hb.size);clear bk c0 c1
    go_wp2_with fail
    go_loopw [5,6] (fun ov iv wr=>∃ k:Nat,2≤k∧k≤n∧iv=.int .i64 (k:Int)∧ov=.string (oidP zs k)∧(∀ j,2≤j→j<k→zs.getD j 0≤268435455)∧Below w.heap.size w wr) (fun _ iv _=>n-(intOf iv).toNat)
    case atStart=>exact ⟨2,by omega,by omega,rfl,by rw [HO2.out],fun j h1 h2=>by omega,hb⟩
    case round=>
     clear hb;obtain ⟨k,h2k,hkn,rfl,rfl,hpre,hb⟩:=hrel;have HPRE:=hid hpre;clear hpre
     by_cases hlt:k<n
     ·have hd:decide ((k:Int)<(n:Int))=true:=by simp;omega
      have hkn':(k:Int)<(n:Int):=by omega
      obtain ⟨g',off',eg,cz⟩:=(HI.out.step hb) k (by rw [HN.out];exact hlt)
      cases eg
      have hz0:=HNN.out k (by omega)
      have hz1:=HZ.out k
      have HS:=hid (oidP_succ zs k h2k (by omega))
      have hsz:=oidP_size zs k (by omega)
      have HZK:Hid (zs.getD k 0=zs.getD k 0):=hid rfl;generalize hzz:zs.getD k 0=z at cz hz0 hz1 HS
      by_cases hbig:268435455<z
      ·have dz:decide (268435455<z)=true:=by simp;omega
       have HR:=hid (qci zs 13 (oid_big zs (by omega) HNN.out hbad (by omega) k h2k (by omega) (by rw [hzz];exact hbig)) (by decide))
       clear HS hzz HZK;generalize oidP zs k=ok at *
       go_wp2_with fail
       go_ret2
       exact ⟨by rw [HR.out.1,HR.out.2];rfl,hb⟩
      ·have dz:decide (268435455<z)=false:=by simp;omega
       have CG:=hid (fun W=>qev z W hz0 (by omega))
       rw [show (⟨(grL z.toNat).toArray⟩:ByteArray)=grB z from rfl] at CG
       have hgs:=grB_size z
       have HPR2:Hid (∀ j,2≤j→j<k+1→zs.getD j 0≤268435455):=hid (fun j h1 h2=>by
        by_cases c:j<k
        ·exact HPRE.out j h1 c
        ·obtain rfl:j=k:=by omega
         rw [hzz];omega)
       obtain ⟨pk,hpk⟩:∃ pk,oidP zs k=pk:=⟨_,rfl⟩;obtain ⟨gk,hgk⟩:∃ gk,grB z=gk:=⟨_,rfl⟩;rw [hpk] at hsz;rw [hgk] at CG hgs
       have HS2:Hid (oidP zs (k+1)=pk++gk):=hid (by rw [HS.out,hpk,hgk])
       rw [hpk]
       have hsum:pk.size+gk.size≤9223372036854775807:=by omega
       clear HS HZK hzz hpk hgk HPRE
       go_wp2_with fail
       refine (CG.out _).mono ?_
       rintro e W1 ⟨rfl,bk⟩;replace hb:=hb.trans (bk.mono hb.size);clear bk CG
       go_wp2_with fail
       go_roundw
       case rel=>exact ⟨k+1,by omega,by omega,by go_num,by rw [HS2.out],HPR2.out,hb⟩
       case measure=>simp [intOf];omega
     ·have hd:decide ((k:Int)<(n:Int))=false:=by simp;omega
      obtain rfl:n=k:=by omega
      have hok:=oid_ok zs (by omega) HNN.out hbad (by omega) (fun j h1 h2=>HPRE.out j h1 (by omega))
      have hP:oidP zs n=oidB zs:=by rw [← HN.out];exact oidP_end zs
      have hbs:=qfn zs (by omega)
      rw [hP]
      have CW:=hid (fun W=>qcZ 6 (oidB zs) W (by decide) (by decide))
      rw [oid_wr zs (by omega)] at CW
      have HX:Hid (oidX zs=wrX 6 (oidB zs)):=hid (if_pos hok);have HOK:=hid hok;generalize wrX 6 (oidB zs)=xo at *;generalize oidB zs=ob at *;clear hok hP
      go_wp2_with fail
      refine (CW.out _).mono ?_
      rintro e W1 ⟨rfl,bk⟩;replace hb:=hb.trans (bk.mono hb.size);clear bk CW
      go_wp2_with fail
      go_ret2
      exact ⟨by rw [HX.out,HOK.out];rfl,hb⟩
end
end Go.Proofs.YteomfleofeeofaaGreatDoor
