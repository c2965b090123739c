/- Things of the document on bytes: tags, what a thing is, the first thing of bytes. No program; Whether a number is a tag; the first thing of bytes (package cressetref13); A thing of a tag: the reference's Write; The number that a thing has in it: the reference's ReadInt; What is written is read, and what is read is written again. No program; A number as a thing: the reference's Int; Numbers as bytes, back and forth: the bytes of a number are read as it, and what is read is written again. No program; Names of numbers as bytes, back and forth: groups of seven bits, what a name's body is, which name bytes are. No program; Slices of numbers as calls are handed them, and whether two are the same; A number in groups: the reference's group; A name of numbers as a thing: the reference's Oid. -/
import Derived.Test.YteomfleofeeofaaGreatDoorConvS
import Derived.Test.YteomfleofeeofaaGreatDoorToldG
namespace Go.Proofs.YteomfleofeeofaaGreatDoor
set_option maxRecDepth 100000
set_option linter.unusedSimpArgs false
set_option linter.unusedVariables false
section
def isT (n:Int):Bool:=decide (0≤n)&&decide (n≤255)&&(n%32 != 31)
def lenL (n:Nat):List UInt8:=if n<128 then [UInt8.ofNat n] else if n<256 then [129,UInt8.ofNat n] else [130,UInt8.ofNat (n / 256),UInt8.ofNat n]
def wrL (tag:Int) (n:Nat):List UInt8:=UInt8.ofNat tag.toNat :: lenL n
def wrE (tag:Int) (body:ByteArray):Int:=if isT tag=true then (if body.size<65536 then 0 else 13) else 1
def wrX (tag:Int) (body:ByteArray):ByteArray:=if wrE tag body=0 then ⟨(wrL tag body.size).toArray⟩++body else ⟨#[]⟩
def rdB (l:List UInt8) (i:Nat):Nat:=(l.getD i 0).toNat
theorem qcu (l:List UInt8) (i:Nat):rdB l i<256:=UInt8.toNat_lt _
def rdA (l:List UInt8):Nat:=if 128<rdB l 1 then rdB l 1-126 else 2
def rdN (l:List UInt8):Nat:=if rdB l 1=129 then rdB l 2 else if rdB l 1=130 then 256*rdB l 2+rdB l 3 else rdB l 1
def rdE (l:List UInt8):Int:=
 if l.length=0 then 10 else if rdB l 0%32=31 then 11 else if l.length<2 then 10 else if rdB l 1=128∨130<rdB l 1 then 11 else if l.length<rdA l then 10 else
  if (rdB l 1=129∧rdN l<128)∨(rdB l 1=130∧rdN l<256) then 11 else if l.length<rdA l+rdN l then 10 else 0
def rdTag (s:ByteArray):Int:=if rdE s.data.toList=0 then (rdB s.data.toList 0:Int) else 0
def qaZ (s:ByteArray):ByteArray:=if rdE s.data.toList=0 then s.extract (rdA s.data.toList) (rdA s.data.toList+rdN s.data.toList) else ⟨#[]⟩
def qbn (s:ByteArray):ByteArray:=if rdE s.data.toList=0 then s.extract (rdA s.data.toList+rdN s.data.toList) s.size else ⟨#[]⟩
def qbJ (s:ByteArray):Int:=rdE s.data.toList
theorem rd_bad (s:ByteArray) (e:Int) (h:rdE s.data.toList=e) (he:e≠0):rdTag s=0∧qaZ s=⟨#[]⟩∧qbn s=⟨#[]⟩∧qbJ s=e:=by
 have hn:¬ rdE s.data.toList=0:=by rw [h];exact he
 exact ⟨if_neg hn,if_neg hn,if_neg hn,h⟩
theorem rd_good (s:ByteArray) (h:rdE s.data.toList=0):rdTag s=(rdB s.data.toList 0:Int)∧qaZ s=s.extract (rdA s.data.toList) (rdA s.data.toList+rdN s.data.toList)∧qbn s=s.extract (rdA s.data.toList+rdN s.data.toList) s.size∧qbJ s=0:=
 ⟨if_pos h,if_pos h,if_pos h,h⟩
theorem rd_at (s:ByteArray) (i:Nat) (hi:i<s.size):∀ k:i<s.size,((s[i]'k).toNat:Int)=(rdB s.data.toList i:Int):=fun k=>by
 rw [rdB,List.getD_eq_getElem?_getD,Array.getElem?_toList]
 simp [k]
 rfl
theorem isT_byte (b:Nat) (h:b<256):isT (b:Int)=!decide (b%32=31):=by
 rw [isT,decide_eq_true (by omega),decide_eq_true (by omega),Bool.true_and,Bool.true_and,bne]
 congr 1
 by_cases c:b%32=31
 ·rw [decide_eq_true c];simp;omega
 ·rw [decide_eq_false c];simp;omega
theorem rd_sizes (s:ByteArray) (h:qbJ s=0):(qaZ s).size≤s.size∧(qbn s).size<s.size:=by
 obtain ⟨_,h2,h3,_⟩:=rd_good s h;have hl:s.data.toList.length=s.size:=(Lib.size_eq s).symm
 have hA:2≤rdA s.data.toList:=by rw [rdA];split <;> omega
 have hk:rdA s.data.toList+rdN s.data.toList≤s.size:=by
  have h':rdE s.data.toList=0:=h;rw [rdE] at h'
  split at h'
  ·cases h'
  split at h'
  ·cases h'
  split at h'
  ·cases h'
  split at h'
  ·cases h'
  split at h'
  ·cases h'
  split at h'
  ·cases h'
  split at h'
  ·cases h'
  omega
 rw [h2,h3,ByteArray.size_extract,ByteArray.size_extract]
 omega
open Go.RowKit Go.Sort in
theorem qcl {fn:Func} {t u v x:Tmp} (h:fn.results=#[.tmp t,.tmp u,.tmp v,.tmp x]) (tmps:Array Value) (P:Program) (w:World) :
  (results fn tmps).run P w=.ok (.tuple #[tmps.getD t undef,tmps.getD u undef,tmps.getD v undef,tmps.getD x undef]) w:=by
 simp [results,h]
end
section
open Go.RowKit Go.Sort
end
section
open Go.RowKit Go.Sort
theorem qdX (k:Nat) (h:k<256):((UInt8.ofNat k).toNat:Int)=(k:Int):=by simp;omega
end
section
open Go.RowKit Go.Sort
def riBad (l:List UInt8):Prop:=1<l.length∧((rdB l 0=0∧rdB l 1<128)∨(rdB l 0=255∧128≤rdB l 1))
instance (l:List UInt8):Decidable (riBad l):=by unfold riBad;infer_instance
def riE (l:List UInt8):Int:=if l.length=0 then 10 else if riBad l then 11 else if 8<l.length then 13 else 0
def riN (l:List UInt8):Nat→Int
 | 0=>if 128≤rdB l 0 then -1 else 0
 | k+1=>riN l k*256+(rdB l k:Int)
def riV (s:ByteArray):Int:=if riE s.data.toList=0 then riN s.data.toList s.data.toList.length else 0
def riErr (s:ByteArray):Int:=riE s.data.toList
theorem riN_first (l:List UInt8):-128≤riN l 1∧riN l 1<128:=by
 have h:=qcu l 0;rw [riN,riN]
 split <;> omega
theorem riN_bound (l:List UInt8):∀ k,-(128*256^k:Nat)≤riN l (k+1)∧riN l (k+1)<(128*256^k:Nat)
 | 0=>riN_first l
 | k+1=>by
  have h:=qcu l (k+1);have ih:=riN_bound l k;rw [riN,Nat.pow_succ]
  omega
theorem riN_small (l:List UInt8) (k:Nat) (h:k≤7):-36028797018963968≤riN l k∧riN l k<36028797018963968:=by
 cases k with
 | zero=>rw [riN];split <;> omega
 | succ k=>
  have ih:=riN_bound l k
  have:256^k≤256^6:=Nat.pow_le_pow_right (by decide) (by omega)
  have e6:(256:Nat)^6=281474976710656:=by decide
  omega
theorem or_low8 (m:Int) (b:Nat) (hb:b<256) (h0:-36028797018963968≤m) (h1:m<36028797018963968):bits .or .i64 (m*256) (b:Int)=m*256+(b:Int):=by
 have e1:(BitVec.ofInt 64 (m*256)).toNat=2^8*(m%72057594037927936).toNat:=by rw [BitVec.toNat_ofInt];omega
 have e2:(BitVec.ofInt 64 (b:Int)).toNat=b:=by rw [BitVec.toNat_ofInt];omega
 have h:=Nat.two_pow_add_eq_or_of_lt (show b<2^8 by omega) (m%72057594037927936).toNat
 show IntKind.i64.wrap (((BitVec.ofInt 64 (m*256) ||| BitVec.ofInt 64 (b:Int)).toNat:Nat):Int)=_
 rw [BitVec.toNat_or,e1,e2,← h,IntKind.wrap_i64]
 omega
theorem ri_bad (s:ByteArray) (e:Int) (h:riE s.data.toList=e) (he:e≠0):riV s=0∧riErr s=e:=⟨if_neg (by rw [h];exact he),h⟩
end
section
theorem qer (k:Nat) (h:k<256):(UInt8.ofNat k).toNat=k:=by rw [UInt8.toNat_ofNat'];omega
theorem rd_list (a n:Nat) (bl rl:List UInt8) (ha:a<256) (ht:a%32≠31) (hn:bl.length=n) (h:n<65536) :
  rdB (wrL a n++(bl++rl)) 0=a∧rdA (wrL a n++(bl++rl))=(wrL a n).length∧rdN (wrL a n++(bl++rl))=n∧rdE (wrL a n++(bl++rl))=0:=by
 have e0:rdB (wrL a n++(bl++rl)) 0=a:=qer a ha
 have hl:(wrL a n++(bl++rl)).length=(wrL a n).length+n+rl.length:=by rw [List.length_append,List.length_append,hn];omega
 by_cases c1:n<128
 ·have ew:wrL a n=[UInt8.ofNat a,UInt8.ofNat n]:=by rw [wrL,lenL,if_pos c1];rfl
  rw [ew] at e0 hl ⊢
  have e1:rdB ([UInt8.ofNat a,UInt8.ofNat n]++(bl++rl)) 1=n:=qer n (by omega)
  generalize [UInt8.ofNat a,UInt8.ofNat n]++(bl++rl)=l at *
  have hA:rdA l=2:=if_neg (by omega)
  have hN:rdN l=n:=by rw [rdN,if_neg (by omega),if_neg (by omega),e1]
  refine ⟨e0,hA,hN,?_⟩
  simp only [List.length_cons,List.length_nil] at hl
  rw [rdE,if_neg (by omega),if_neg (by omega),if_neg (by omega),if_neg (by omega),if_neg (by omega),if_neg (by omega),if_neg (by omega)]
 by_cases c2:n<256
 ·have ew:wrL a n=[UInt8.ofNat a,129,UInt8.ofNat n]:=by rw [wrL,lenL,if_neg c1,if_pos c2];rfl
  rw [ew] at e0 hl ⊢;have e1:rdB ([UInt8.ofNat a,129,UInt8.ofNat n]++(bl++rl)) 1=129:=rfl
  have e2:rdB ([UInt8.ofNat a,129,UInt8.ofNat n]++(bl++rl)) 2=n:=qer n (by omega)
  generalize [UInt8.ofNat a,129,UInt8.ofNat n]++(bl++rl)=l at *
  have hA:rdA l=3:=by rw [rdA,if_pos (by omega),e1]
  have hN:rdN l=n:=by rw [rdN,if_pos e1,e2]
  refine ⟨e0,hA,hN,?_⟩
  simp only [List.length_cons,List.length_nil] at hl
  rw [rdE,if_neg (by omega),if_neg (by omega),if_neg (by omega),if_neg (by omega),if_neg (by omega),if_neg (by omega),if_neg (by omega)]
 ·have ew:wrL a n=[UInt8.ofNat a,130,UInt8.ofNat (n / 256),UInt8.ofNat n]:=by rw [wrL,lenL,if_neg c1,if_neg c2];rfl
  rw [ew] at e0 hl ⊢;have e1:rdB ([UInt8.ofNat a,130,UInt8.ofNat (n / 256),UInt8.ofNat n]++(bl++rl)) 1=130:=rfl
  have e2:rdB ([UInt8.ofNat a,130,UInt8.ofNat (n / 256),UInt8.ofNat n]++(bl++rl)) 2=n / 256:=qer _ (by omega)
  have e3:rdB ([UInt8.ofNat a,130,UInt8.ofNat (n / 256),UInt8.ofNat n]++(bl++rl)) 3=n%256:=by
   show (UInt8.ofNat n).toNat=n%256
   rw [UInt8.toNat_ofNat']
  generalize [UInt8.ofNat a,130,UInt8.ofNat (n / 256),UInt8.ofNat n]++(bl++rl)=l at *
  have hA:rdA l=4:=by rw [rdA,if_pos (by omega),e1]
  have hN:rdN l=n:=by rw [rdN,if_neg (by omega),if_pos e1,e2,e3];omega
  refine ⟨e0,hA,hN,?_⟩
  simp only [List.length_cons,List.length_nil] at hl
  rw [rdE,if_neg (by omega),if_neg (by omega),if_neg (by omega),if_neg (by omega),if_neg (by omega),if_neg (by omega),if_neg (by omega)]
theorem ext_of (s:ByteArray) (a b:Nat) (l:List UInt8) (h:((s.data.toList.drop a).take (b-a))=l):s.extract a b=⟨l.toArray⟩:=by
 have h2:(s.extract a b).data.toList=(⟨l.toArray⟩:ByteArray).data.toList:=by rw [Lib.extract_data,h]
 apply ByteArray.ext
 exact Array.toList_inj.1 h2
theorem mk_data (s:ByteArray):(⟨s.data.toList.toArray⟩:ByteArray)=s:=by
 apply ByteArray.ext
 exact Array.toArray_toList
theorem rd_wr (n:Int) (b r:ByteArray) (h:wrE n b=0):rdTag (wrX n b++r)=n∧qaZ (wrX n b++r)=b∧qbn (wrX n b++r)=r∧qbJ (wrX n b++r)=0:=by
 have hT:isT n=true:=by
  cases ht:isT n with
  | true=>rfl
  | false=>rw [wrE,ht] at h;cases h
 have hz:b.size<65536:=by
  apply Nat.lt_of_not_le
  intro hc
  rw [wrE,hT,if_pos rfl,if_neg (by omega)] at h
  cases h
 have hr:0≤n∧n≤255∧n%32≠31:=by
  have h':=hT
  simp only [isT,Bool.and_eq_true,decide_eq_true_eq,bne_iff_ne] at h'
  exact ⟨h'.1.1,h'.1.2,h'.2⟩
 obtain ⟨a,rfl⟩:∃ a:Nat,n=(a:Int):=⟨n.toNat,by omega⟩
 have hx:wrX (a:Int) b=⟨(wrL (a:Int) b.size).toArray⟩++b:=by rw [wrX,if_pos h]
 have hl:(wrX (a:Int) b++r).data.toList=wrL (a:Int) b.size++(b.data.toList++r.data.toList):=by
  rw [hx,ByteArray.data_append,ByteArray.data_append,Array.toList_append,Array.toList_append,List.append_assoc]
 have hbl:b.data.toList.length=b.size:=(Lib.size_eq b).symm
 obtain ⟨q0,qA,qN,qE⟩:=rd_list a b.size b.data.toList r.data.toList (by omega) (by omega) hbl hz
 have hw:wrL ((a:Nat):Int) b.size=wrL a b.size:=rfl
 obtain ⟨g1,g2,g3,g4⟩:=rd_good (wrX (a:Int) b++r) (by rw [hl];exact qE)
 rw [hl,q0] at g1;rw [hl,qA,qN] at g2 g3
 refine ⟨g1,?_,?_,g4⟩
 ·rw [g2,ext_of _ _ _ b.data.toList,mk_data]
  rw [hl,List.drop_left,Nat.add_sub_cancel_left,← hbl,List.take_left]
 ·rw [g3,ext_of _ _ _ r.data.toList,mk_data]
  rw [hl,← List.append_assoc,List.drop_left' (by rw [List.length_append,hbl]),List.take_of_length_le]
  have:(wrX (a:Int) b++r).size=(wrX (a:Int) b++r).data.toList.length:=Lib.size_eq _
  rw [this,hl,List.length_append,List.length_append,hbl]
  omega
end
section
open Go.RowKit Go.Sort
def byt8 (n:Int) (j:Nat):UInt8:=UInt8.ofNat (n / 256^(7-j)%256).toNat
def b8L (n:Int):List UInt8:=(List.range 8).map fun j=>byt8 n j
theorem qb1 (n:Int):(b8L n).length=8:=by simp [b8L]
def qb2:List UInt8→List UInt8
 | x :: y :: r=>if (x.toNat=0∧y.toNat<128)∨(x.toNat=255∧128≤y.toNat) then qb2 (y :: r) else x :: y :: r
 | l=>l
def intB (n:Int):ByteArray:=⟨(qb2 (b8L n)).toArray⟩
theorem byt8_val (n:Int) (k:Nat):((byt8 n k).toNat:Int)=n / 256^(7-k)%256:=by
 rw [byt8,UInt8.toNat_ofNat']
 have h:=Int.emod_nonneg (n / 256^(7-k)) (show (256:Int)≠0 by decide)
 have h2:=Int.emod_lt_of_pos (n / 256^(7-k)) (show (0:Int)<256 by decide)
 omega
theorem pow_shift (k:Nat) (h:k<8):(2:Int)^(8*(7-k))=256^(7-k):=by
 rw [show (256:Int)=2^8 from rfl,← Int.pow_mul]
end
section
theorem rdB_cons (x:UInt8) (l:List UInt8) (k:Nat):rdB (x :: l) (k+1)=rdB l k:=by
 rw [rdB,rdB,List.getD_cons_succ]
theorem rdB_zero (x:UInt8) (l:List UInt8):rdB (x :: l) 0=x.toNat:=rfl
theorem riN_zero (l:List UInt8):riN l 0=if 128≤rdB l 0 then -1 else 0:=rfl
theorem qdA (l:List UInt8) (k:Nat):riN l (k+1)=riN l k*256+(rdB l k:Int):=rfl
theorem riN_tail (x y:UInt8) (r:List UInt8) (h:(x.toNat=0∧y.toNat<128)∨(x.toNat=255∧128≤y.toNat)):∀ k,riN (x :: y :: r) (k+1)=riN (y :: r) k
 | 0=>by
  rw [qdA,riN_zero,riN_zero,rdB_zero,rdB_zero]
  rcases h with ⟨h1,h2⟩ | ⟨h1,h2⟩
  ·rw [h1,if_neg (by omega),if_neg (by omega)];rfl
  ·rw [h1,if_pos (by omega),if_pos (by omega)];rfl
 | k+1=>by rw [qdA,riN_tail x y r h k,rdB_cons,← qdA]
theorem qdY (x y:UInt8) (r:List UInt8):qb2 (x :: y :: r)=if (x.toNat=0∧y.toNat<128)∨(x.toNat=255∧128≤y.toNat) then qb2 (y :: r) else x :: y :: r:=rfl
theorem trim_val:∀ (l:List UInt8),riN (qb2 l) (qb2 l).length=riN l l.length
 | []=>rfl
 | [x]=>rfl
 | x :: y :: r=>by
  rw [qdY]
  split
  ·rename_i h
   rw [trim_val (y :: r)];exact (riN_tail x y r h (y :: r).length).symm
  ·rfl
theorem trim_size:∀ (l:List UInt8),(qb2 l).length≤l.length∧(l≠[]→qb2 l≠[])
 | []=>⟨Nat.le_refl _,fun h=>h⟩
 | [x]=>⟨Nat.le_refl _,fun h=>h⟩
 | x :: y :: r=>by
  rw [qdY]
  split
  ·have h:=trim_size (y :: r)
   exact ⟨Nat.le_trans h.1 (by simp),fun _=>h.2 (by simp)⟩
  ·exact ⟨Nat.le_refl _,fun _=>by simp⟩
theorem riBad_two (x y:UInt8) (r:List UInt8):riBad (x :: y :: r)↔(x.toNat=0∧y.toNat<128)∨(x.toNat=255∧128≤y.toNat):=
 ⟨fun h=>h.2,fun h=>⟨by simp,h⟩⟩
theorem trim_good:∀ (l:List UInt8),¬ riBad (qb2 l)
 | []=>fun h=>by have:=h.1;simp [qb2] at this
 | [x]=>fun h=>by have:=h.1;simp [qb2] at this
 | x :: y :: r=>by
  rw [qdY]
  split
  ·exact trim_good (y :: r)
  ·rename_i h
   rwa [riBad_two]
theorem riN_range (l:List UInt8) (k:Nat) (h:k+1=l.length):-(128*256^k:Nat)≤riN l l.length∧riN l l.length<(128*256^k:Nat):=by
 rw [← h];exact riN_bound l k
theorem b8L_at (n:Int) (k:Nat) (h:k<8):(rdB (b8L n) k:Int)=n / 256^(7-k)%256:=by
 rw [← byt8_val,rdB,b8L,List.getD_eq_getElem?_getD,List.getElem?_map,List.getElem?_range h]
 rfl
theorem b8L_val (n:Int) (h0:-9223372036854775808≤n) (h1:n≤9223372036854775807):∀ k,k<8→riN (b8L n) (k+1)=n / 256^(7-k)
 | 0,_=>by
  have a:=b8L_at n 0 (by omega)
  have e:(256:Int)^(7-0)=72057594037927936:=by decide
  rw [qdA,riN_zero,e] at *
  split <;> omega
 | k+1,h=>by
  have ih:=b8L_val n h0 h1 k (by omega)
  rw [qdA,ih,b8L_at n (k+1) h]
  have e:(256:Int)^(7-k)=256^(7-(k+1))*256:=by rw [show 7-k=(7-(k+1))+1 by omega,Int.pow_succ]
  rw [e,← Int.ediv_ediv_of_nonneg (Int.pow_nonneg (by decide))]
  omega
theorem intB_facts (n:Int) (h0:-9223372036854775808≤n) (h1:n≤9223372036854775807):1≤(intB n).data.toList.length∧(intB n).data.toList.length≤8∧¬ riBad (intB n).data.toList∧riN (intB n).data.toList (intB n).data.toList.length=n:=by
 have e:(intB n).data.toList=qb2 (b8L n):=rfl;rw [e];have hs:=trim_size (b8L n)
 have hne:b8L n≠[]:=fun h=>by have:=qb1 n;rw [h] at this;cases this
 refine ⟨?_,?_,trim_good _,?_⟩
 ·have:=List.length_pos_iff.2 (hs.2 hne);omega
 ·have:=hs.1;rw [qb1] at this;exact this
 ·rw [trim_val,qb1,b8L_val n h0 h1 7 (by omega)]
  simp
theorem intB_size (n:Int):(intB n).size≤8:=by
 have h:=(trim_size (b8L n)).1;rw [qb1] at h;exact h
theorem int_back (n:Int) (h0:-9223372036854775808≤n) (h1:n≤9223372036854775807):riErr (intB n)=0∧riV (intB n)=n:=by
 obtain ⟨a,b,c,d⟩:=intB_facts n h0 h1
 have e:riE (intB n).data.toList=0:=by rw [riE,if_neg (by omega),if_neg c,if_neg (by omega)]
 exact ⟨e,by rw [riV,if_pos e,d]⟩
theorem ri_range (s:ByteArray):-9223372036854775808≤riV s∧riV s≤9223372036854775807:=by
 rw [riV]
 split
 ·rename_i h
  rw [riE] at h
  split at h
  ·cases h
  split at h
  ·cases h
  split at h
  ·cases h
  rename_i a b c
  obtain ⟨k,hk⟩:∃ k,k+1=s.data.toList.length:=⟨s.data.toList.length-1,by omega⟩
  have r:=riN_range _ k hk
  have hp:256^k≤256^7:=Nat.pow_le_pow_right (by decide) (by omega)
  have e7:(256:Nat)^7=72057594037927936:=by decide
  omega
 ·omega
theorem int_wr (n:Int):wrE 2 (intB n)=0:=by
 have:=intB_size n
 rw [wrE,if_pos (by decide),if_pos (by omega)]
end
section
def hiL:Nat→Nat→List UInt8
 | 0,_=>[]
 | f+1,n=>if n=0 then [] else hiL f (n / 128)++[UInt8.ofNat (128+n%128)]
def grL (n:Nat):List UInt8:=hiL 9 (n / 128)++[UInt8.ofNat (n%128)]
theorem hiL_zero (f:Nat):hiL f 0=[]:=by cases f <;> rfl
theorem hiL_length:∀ (f n:Nat),(hiL f n).length≤f
 | 0,_=>Nat.le_refl _
 | f+1,n=>by
  rw [hiL]
  split
  ·simp
  ·have:=hiL_length f (n / 128)
   rw [List.length_append]
   simp
   exact this
theorem qec (n:Nat):1≤(grL n).length∧(grL n).length≤10:=by
 have:=hiL_length 9 (n / 128)
 rw [grL,List.length_append]
 simp
 omega
def qbs (zs:List Int):Int:=
 if zs.length<2 then 1 else if (zs.any fun z=>decide (z<0))=true then 1 else
  if 2<zs.getD 0 0∨(zs.getD 0 0<2∧39<zs.getD 1 0)∨1000000<zs.getD 1 0 then 1 else
   if 20<zs.length then 13 else if ((zs.drop 2).any fun z=>decide (268435455<z))=true then 13 else 0
def restL (zs:List Int):List UInt8:=zs.flatMap fun z=>grL z.toNat
def oidL (zs:List Int):List UInt8:=grL (40*zs.getD 0 0+zs.getD 1 0).toNat++restL (zs.drop 2)
def oidB (zs:List Int):ByteArray:=⟨(oidL zs).toArray⟩
def oidX (zs:List Int):ByteArray:=if qbs zs=0 then wrX 6 (oidB zs) else ⟨#[]⟩
theorem qes:∀ (zs:List Int),(restL zs).length≤10*zs.length
 | []=>Nat.le_refl _
 | z :: r=>by
  have:=qes r;have:=(qec z.toNat).2
  rw [restL,List.flatMap_cons,List.length_append,List.length_cons,← restL]
  omega
theorem oidB_size (zs:List Int) (h:zs.length≤20):(oidB zs).size≤210:=by
 have a:=qes (zs.drop 2);have b:=(qec (40*zs.getD 0 0+zs.getD 1 0).toNat).2;rw [List.length_drop] at a
 show (oidL zs).length≤210
 rw [oidL,List.length_append]
 omega
theorem oid_wr (zs:List Int) (h:zs.length≤20):wrE 6 (oidB zs)=0:=by
 have:=oidB_size zs h
 rw [wrE,if_pos (by decide),if_pos (by omega)]
end
section
open Go.RowKit Go.Sort
def IntsAt (W:World) (ao:Option Addr) (zs:List Int):Prop:=∀ j,j<zs.length→∃ g off,ao=some ⟨g,off,none⟩∧W.cell? ⟨g,off+j,none⟩=some (.int .i64 (zs.getD j 0))
theorem IntsAt.step {W W':World} {ao:Option Addr} {zs:List Int} (h:IntsAt W ao zs) (hb:Below W.heap.size W W'):IntsAt W' ao zs:=fun j hj=>by
 obtain ⟨g,off,ha,hc⟩:=h j hj;exact ⟨g,off,ha,(hb.cell (block_lt_of_cell hc)).trans hc⟩
def iCells (zs:List Int):List Value:=zs.map fun z=>.int .i64 z
theorem qah {P:Program} {w:World} {v:Value} {r:Result Next} (h:qac P w v r):qa6 P w (Told.val v) r:=by
 cases r with
 | ok n w'=>
  cases n <;> simp only [qac] at h <;> simp only [qa6]
  case value u=>obtain ⟨rfl,rfl⟩:=h;exact ⟨Below.refl _ _,rfl⟩
  case enter f args=>
   obtain ⟨rfl,hc⟩:=h
   exact ⟨rfl,hc.mono fun e w'' ⟨he,hb⟩=>⟨v,he,rfl,hb⟩⟩
 | halt x w'=>simp only [qac] at h
end
section
open Go.RowKit Go.Sort
theorem byteC (k:Nat) (h:k<256):Lib.byteCells [UInt8.ofNat k]=[.int .u8 (k:Int)]:=by
 simp only [Lib.byteCells,List.map_cons,List.map_nil,qdX k h]
theorem group_step (m:Nat) (h:0<m):∀ f,m<128^f→∃ f',f=f'+1∧hiL f m=hiL f' (m / 128)++[UInt8.ofNat (128+m%128)]∧m / 128<128^f'
 | 0,hm=>by simp at hm;omega
 | f+1,hm=>⟨f,rfl,by rw [hiL,if_neg (by omega)],by rw [Nat.pow_succ] at hm;omega⟩
end
section
open Go.RowKit Go.Sort
theorem any_at (zs:List Int) (p:Int→Bool) (k:Nat) (hk:k<zs.length) (h:p (zs.getD k 0)=true):zs.any p=true:=by
 rw [List.any_eq_true]
 refine ⟨zs[k],List.getElem_mem hk,?_⟩
 rwa [List.getD_eq_getElem?_getD,List.getElem?_eq_getElem hk] at h
theorem any_none (zs:List Int) (p:Int→Bool) (h:∀ k,k<zs.length→p (zs.getD k 0)=false):¬ zs.any p=true:=by
 rw [List.any_eq_true];rintro ⟨x,hx,hp⟩;obtain ⟨k,hk,rfl⟩:=List.mem_iff_getElem.1 hx
 have:=h k hk
 rw [List.getD_eq_getElem?_getD,List.getElem?_eq_getElem hk] at this;rw [Option.getD_some] at this;rw [this] at hp
 cases hp
abbrev qcV (zs:List Int):Prop:=2<zs.getD 0 0∨(zs.getD 0 0<2∧39<zs.getD 1 0)∨1000000<zs.getD 1 0
theorem oid_few (zs:List Int) (h:zs.length<2):qbs zs=1:=if_pos h
theorem oid_neg (zs:List Int) (h2:¬ zs.length<2) (k:Nat) (hk:k<zs.length) (h:zs.getD k 0<0):qbs zs=1:=by
 rw [qbs,if_neg h2,if_pos (any_at zs _ k hk (decide_eq_true h))]
theorem oid_arg (zs:List Int) (h2:¬ zs.length<2) (h:qcV zs):qbs zs=1:=by
 rw [qbs,if_neg h2]
 by_cases q:(zs.any fun z=>decide (z<0))=true
 ·rw [if_pos q]
 ·rw [if_neg q,if_pos h]
theorem oid_many (zs:List Int) (h2:¬ zs.length<2) (hn:∀ k,k<zs.length→0≤zs.getD k 0) (hb:¬ qcV zs) (h:20<zs.length):qbs zs=13:=by
 rw [qbs,if_neg h2,if_neg (any_none zs _ fun k hk=>decide_eq_false (by have:=hn k hk;omega)),if_neg hb,if_pos h]
theorem drop2_at (zs:List Int) (j:Nat):(zs.drop 2).getD j 0=zs.getD (2+j) 0:=by
 rw [List.getD_eq_getElem?_getD,List.getD_eq_getElem?_getD,List.getElem?_drop]
theorem oid_big (zs:List Int) (h2:¬ zs.length<2) (hn:∀ k,k<zs.length→0≤zs.getD k 0) (hb:¬ qcV zs) (h:¬ 20<zs.length) (k:Nat) (h2k:2≤k) (hk:k<zs.length) (hz:268435455<zs.getD k 0):qbs zs=13:=by
 rw [qbs,if_neg h2,if_neg (any_none zs _ fun k hk=>decide_eq_false (by have:=hn k hk;omega)),if_neg hb,if_neg h,if_pos]
 refine any_at (zs.drop 2) _ (k-2) (by rw [List.length_drop];omega) ?_
 rw [drop2_at,show 2+(k-2)=k by omega]
 exact decide_eq_true hz
theorem oid_ok (zs:List Int) (h2:¬ zs.length<2) (hn:∀ k,k<zs.length→0≤zs.getD k 0) (hb:¬ qcV zs) (h:¬ 20<zs.length) (hz:∀ k,2≤k→k<zs.length→zs.getD k 0≤268435455):qbs zs=0:=by
 rw [qbs,if_neg h2,if_neg (any_none zs _ fun k hk=>decide_eq_false (by have:=hn k hk;omega)),if_neg hb,if_neg h,if_neg]
 refine any_none (zs.drop 2) _ fun j hj=>?_
 rw [List.length_drop] at hj
 have:=hz (2+j) (by omega) (by omega)
 rw [drop2_at]
 exact decide_eq_false (by omega)
theorem oid_bad (zs:List Int) (e:Int) (h:qbs zs=e) (he:e≠0):oidX zs=⟨#[]⟩∧qbs zs=e:=⟨if_neg (by rw [h];exact he),h⟩
def oidP (zs:List Int) (k:Nat):ByteArray:=⟨(grL (40*zs.getD 0 0+zs.getD 1 0).toNat++restL ((zs.drop 2).take (k-2))).toArray⟩
def grB (z:Int):ByteArray:=⟨(grL z.toNat).toArray⟩
theorem oidP_two (zs:List Int):oidP zs 2=grB (40*zs.getD 0 0+zs.getD 1 0):=by
 rw [oidP,grB,Nat.sub_self,List.take_zero,show restL []=[] from rfl,List.append_nil]
theorem oidP_succ (zs:List Int) (k:Nat) (h2:2≤k) (hk:k<zs.length):oidP zs (k+1)=oidP zs k++grB (zs.getD k 0):=by
 apply ByteArray.ext
 apply Array.toList_inj.1
 have hk2:k-2<(zs.drop 2).length:=by rw [List.length_drop];omega
 have e:(zs.drop 2)[k-2]=zs.getD k 0:=by
  rw [List.getElem_drop,List.getD_eq_getElem?_getD,List.getElem?_eq_getElem hk]
  simp only [show 2+(k-2)=k by omega]
  rfl
 rw [ByteArray.data_append,Array.toList_append]
 show grL _++restL ((zs.drop 2).take (k+1-2))=(grL _++restL ((zs.drop 2).take (k-2)))++grL (zs.getD k 0).toNat
 rw [show k+1-2=(k-2)+1 by omega,List.take_succ_eq_append_getElem hk2,e,restL,List.flatMap_append,List.flatMap_cons,List.flatMap_nil,List.append_nil,List.append_assoc]
 rfl
theorem oidP_end (zs:List Int):oidP zs zs.length=oidB zs:=by
 rw [oidP,oidB,oidL,List.take_of_length_le (by rw [List.length_drop];omega)]
theorem grB_size (z:Int):(grB z).size≤10:=(qec z.toNat).2
theorem oidP_size (zs:List Int) (k:Nat) (h:k≤20):(oidP zs k).size≤210:=by
 have a:=qes ((zs.drop 2).take (k-2));have b:=(qec (40*zs.getD 0 0+zs.getD 1 0).toNat).2;rw [List.length_take] at a
 show (grL _++restL _).length≤210
 rw [List.length_append]
 omega
end
end Go.Proofs.YteomfleofeeofaaGreatDoor
