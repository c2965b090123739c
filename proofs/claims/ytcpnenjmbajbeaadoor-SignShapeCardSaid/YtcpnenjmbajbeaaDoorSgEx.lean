/- The chapter's example of signatures: the public key of the seed of 32 bytes 17, reckoned by the kernel. No program. -/
import Derived.Test.YtcpnenjmbajbeaaDoorSgSpec
import Derived.Test.YtcpnenjmbajbeaaDoorPtK
namespace Go.Proofs.YtcpnenjmbajbeaaDoor
set_option maxRecDepth 100000
set_option linter.unusedSimpArgs false
set_option linter.unusedVariables false

def tryL : List UInt8 := List.replicate 32 17
def tryT : ByteArray := ⟨tryL.toArray⟩
theorem tryT_size : tryT.size = 32 := rfl
def tryK : List UInt8 := [128, 91, 146, 11, 218, 76, 212, 157, 37, 29, 51, 41, 20, 74, 12, 248, 189, 170, 160, 117, 2, 98, 111, 168, 127, 8, 232, 15, 174, 218, 177, 95]
theorem try_digest : (clamp12 ((sha512L kf hf tryL).take 32) == tryK) = true := by decide +kernel
theorem try_scalar : (sclT tryT).data.toList = tryK := by
  show clamp12 ((sha512L kf hf tryT.data.toList).take 32) = tryK
  exact eq_of_beq try_digest
def tryN : Nat := 25116557757922002574707759503853195232349053197870605726287787695829607926480
theorem try_mul : mulPT baseP (sclT tryT) = mulPK twoF baseP tryK 256 := by
  rw [mulPT, if_pos (sclT_size _), try_scalar, mulP_PK]
theorem try_inv : invF 34309854862950868511809235379378701342085933988413931811461752675934526986953 = 23521191197236648417840918119129429033287289714189229699063409016762128184835 := by
  rw [invF, powF_reckoned _ _ (by decide)]
  decide +kernel
theorem try_add : mulF 16429069205403415844005240169393333965892966233696548059320523106166103557545 23521191197236648417840918119129429033287289714189229699063409016762128184835 + mulF 56736488371881443213280810435280726697400455386835066363208456964273520407752 23521191197236648417840918119129429033287289714189229699063409016762128184835 % 2 * 57896044618658097711785492504343953926634992332820282019728792003956564819968 = tryN := by decide +kernel
theorem enc_of (p : PtN) (x y z i : Nat) (h1 : p.z = z) (h2 : p.y = y) (h3 : p.x = x) (h4 : invF z = i) : encP p = mulF y i + mulF x i % 2 * 57896044618658097711785492504343953926634992332820282019728792003956564819968 := by
  rw [encP, h1, h2, h3, h4]
theorem try_enc : encP (mulPT baseP (sclT tryT)) = tryN := by
  rw [try_mul, two_val, baseP_val, ← try_add]
  exact enc_of _ _ _ _ _ try_times.1 try_times.2.1 try_times.2.2 try_inv
theorem try_bytes : txtP (mulPT baseP (sclT tryT)) = ⟨(leF tryN 32).toArray⟩ := by
  rw [txtP, bytP, try_enc]
theorem try_public : pubT tryT = ⟨(leF tryN 32).toArray⟩ := try_bytes
theorem try_low : lowP (leF tryN 32) = tryN := by decide +kernel
theorem try_odd : oddP (leF tryN 32) = false := by decide +kernel
theorem try_sqr : sqrP tryN = 3448741140700534807739868258217183381199778207016979148458807062634268984127 := by
  have h1 : addF (mulF 37095705934669439343138083508754565189542113879843219016388785533085940283555 (mulF tryN tryN)) 1 = 54412964559858144500932678039073792598100697843664416523245331551696638409545 := by decide +kernel
  have h2 : invF 54412964559858144500932678039073792598100697843664416523245331551696638409545 = 18455531915333266361607457012981967347226120772184300266205622725110703762718 := by
    rw [invF, powF_reckoned _ _ (by decide)]
    decide +kernel
  rw [sqrP, fac_val, h1, h2]
  decide +kernel
theorem try_root : (rootF 3448741140700534807739868258217183381199778207016979148458807062634268984127).2 = true := by
  have h : rootX 3448741140700534807739868258217183381199778207016979148458807062634268984127 = pwQ 3448741140700534807739868258217183381199778207016979148458807062634268984127 ((pF + 3) / 8) 256 := powF_reckoned _ _ (by decide)
  have h2 : powF 2 ((pF - 1) / 4) = pwQ 2 ((pF - 1) / 4) 256 := powF_reckoned _ _ (by decide)
  rw [rootF, rootY, h, h2]
  decide +kernel
theorem try_point : ofET (pubT tryT) = 0 := by
  have hs : (⟨(leF tryN 32).toArray⟩ : ByteArray).size = 32 := leF_length _ 32
  have hi : isP (leF tryN 32) = true := by
    rw [isP, try_odd, try_low, try_sqr, try_root]
    decide +kernel
  rw [try_public, ofET, if_pos hs]
  show ofE (leF tryN 32) = 0
  rw [ofE, hi]
  rfl
theorem try_begins : ((leF tryN 32).take 4 == [208, 74, 178, 50]) = true := by decide +kernel
theorem try_verify (t : ByteArray) : verE (pubT tryT) t ⟨#[]⟩ = 22 := by
  rw [verE, if_pos try_point, if_neg]
  rintro ⟨h, _⟩
  cases h
end Go.Proofs.YtcpnenjmbajbeaaDoor
