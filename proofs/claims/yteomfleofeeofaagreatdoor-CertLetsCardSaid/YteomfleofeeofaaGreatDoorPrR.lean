/- The reference's point: a struct of four slices of digits; Zero, factor, double; The reference's sum of two points; The reference's Add and Neg; The reference's Mul; The reference's Bytes of a point; The reference's point of bytes; The reference's base point; what its calls answer for any texts. -/
import Derived.Test.YteomfleofeeofaaGreatDoorPtA
import Derived.Test.YteomfleofeeofaaGreatDoorFldR
import Derived.Test.YteomfleofeeofaaGreatDoorToldG
import Derived.Test.YteomfleofeeofaaGreatDoorConvS
namespace Go.Proofs.YteomfleofeeofaaGreatDoor
set_option maxRecDepth 100000
set_option linter.unusedSimpArgs false
set_option linter.unusedVariables false
section
open Go.RowKit Go.Sort
end
section
open Go.RowKit Go.Sort
end
section
open Go.RowKit Go.Sort
theorem qan {P:Program} {w:World} {v:Value} {r:Result Next} (h:qac P w v r):qa6 P w (Told.val v) r:=by
 cases r with
 | ok n w'=>
  cases n <;> simp only [qac] at h <;> simp only [qa6]
  case value u=>obtain ⟨rfl,rfl⟩:=h;exact ⟨Below.refl _ _,rfl⟩
  case enter f args=>
   obtain ⟨rfl,hc⟩:=h
   exact ⟨rfl,hc.mono fun e w'' ⟨he,hb⟩=>⟨v,he,rfl,hb⟩⟩
 | halt x w'=>simp only [qac] at h
end
section
open Go.RowKit Go.Sort
end
section
open Go.RowKit Go.Sort
theorem or_bit7 (b:UInt8) (n:Nat) (hb:b.toNat<128) (hn:n<2):bits .or .u8 (b.toNat:Int) ((n:Int)*128)=((b.toNat+128*n:Nat):Int):=by
 have e1:(BitVec.ofInt 8 (b.toNat:Int)).toNat=b.toNat:=by rw [BitVec.toNat_ofInt];omega
 have e2:(BitVec.ofInt 8 ((n:Int)*128)).toNat=2^7*n:=by rw [BitVec.toNat_ofInt];omega
 have h:=Nat.two_pow_add_eq_or_of_lt (show b.toNat<2^7 by omega) n
 show IntKind.u8.wrap (((BitVec.ofInt 8 (b.toNat:Int) ||| BitVec.ofInt 8 ((n:Int)*128)).toNat:Nat):Int)=_
 rw [BitVec.toNat_or,e1,e2,Nat.or_comm,← h,IntKind.wrap_u8]
 omega
theorem leF_top (y n:Nat) (hy:y<57896044618658097711785492504343953926634992332820282019728792003956564819968) (hn:n<2):((leF y 32).getD 31 0).toNat<128∧(leF y 32).set 31 (UInt8.ofNat (((leF y 32).getD 31 0).toNat+128*n))=leF (y+n*57896044618658097711785492504343953926634992332820282019728792003956564819968) 32:=by
 have e31:(256:Nat)^31=452312848583266388373324160190187140051835877600158453279131187530910662656:=by decide
 have hg:((leF y 32).getD 31 0).toNat=y / 256^31:=by
  rw [leF_get _ _ _ (by decide),UInt8.toNat_ofNat',e31]
  omega
 constructor
 ·rw [hg,e31];omega
 ·rw [hg]
  apply List.ext_getElem (by rw [List.length_set,qbf,qbf])
  intro i h1 h2;rw [qbf] at h2
  simp only [leF,List.getElem_set,List.getElem_map,List.getElem_range]
  by_cases h31:31=i
  ·subst h31
   rw [if_pos rfl]
   apply UInt8.toNat_inj.1
   rw [UInt8.toNat_ofNat',UInt8.toNat_ofNat',e31]
   omega
  ·rw [if_neg h31]
   apply UInt8.toNat_inj.1
   rw [UInt8.toNat_ofNat',UInt8.toNat_ofNat']
   have hd:57896044618658097711785492504343953926634992332820282019728792003956564819968=256^i*(256*(256^(30-i)*128)):=by
    rw [show 256^i*(256*(256^(30-i)*128))=256^i*256*256^(30-i)*128 by simp only [Nat.mul_assoc],← Nat.pow_succ,← Nat.pow_add,show i+1+(30-i)=31 by omega,e31]
   rw [hd,Nat.mul_left_comm n,Nat.add_mul_div_left _ _ (Nat.pow_pos (by decide)),Nat.mul_left_comm n,Nat.add_mul_mod_self_left]
end
section
open Go.RowKit Go.Sort
end
section
open Go.RowKit Go.Sort
end
end Go.Proofs.YteomfleofeeofaaGreatDoor
