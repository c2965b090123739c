/- Sealed bytes, as the document tells them, on lists of bytes. Arithmetic alone. -/
import Derived.Test.YtoejkiblampecaaDoorGcmBits
namespace Go.Proofs.YtoejkiblampecaaDoor
open Go.RowKit
set_option maxRecDepth 100000
set_option linter.unusedSimpArgs false
set_option linter.unusedVariables false

def zeroB : List UInt8 := List.replicate 16 0
/-- The digest of so many blocks. -/
def hG (key blocks : List UInt8) : Nat → List UInt8
  | 0 => zeroB
  | k + 1 => prodG (plS (hG key blocks k) ((blocks.drop (16 * k)).take 16)) key
theorem hG_length (key blocks : List UInt8) : ∀ k, (hG key blocks k).length = 16
  | 0 => by rw [hG, zeroB, List.length_replicate]
  | k + 1 => prodG_length _ _
def hashG (key blocks : List UInt8) : List UInt8 := hG key blocks (blocks.length / 16)
theorem hashG_length (key blocks : List UInt8) : (hashG key blocks).length = 16 := hG_length _ _ _
/-- The counter block of a number. -/
def ctG (nonce : List UInt8) (n : Nat) : List UInt8 := nonce ++ be 4 n
theorem ctG_length (nonce : List UInt8) (n : Nat) (h : nonce.length = 12) : (ctG nonce n).length = 16 := by rw [ctG, List.length_append, be_length, h]
/-- Bytes filled up to whole blocks. -/
def padG (l : List UInt8) : List UInt8 := l ++ List.replicate ((16 - l.length % 16) % 16) 0
theorem padG_length (l : List UInt8) : (padG l).length = (l.length + 15) / 16 * 16 := by rw [padG, List.length_append, List.length_replicate]; omega
theorem padG_snoc (l : List UInt8) (h : l.length % 16 ≠ 0) : padG (l ++ [0]) = padG l := by
  unfold padG
  rw [List.length_append, List.length_singleton, List.append_assoc]
  obtain ⟨d, hd⟩ : ∃ d, (16 - l.length % 16) % 16 = d + 1 := ⟨(16 - l.length % 16) % 16 - 1, by omega⟩
  rw [hd, show (16 - (l.length + 1) % 16) % 16 = d by omega, List.replicate_succ]
  rfl
theorem padG_full (l : List UInt8) (h : l.length % 16 = 0) : padG l = l := by rw [padG, h]; simp
def longG (n : Nat) : List UInt8 := be 8 (8 * n)
theorem longG_length (n : Nat) : (longG n).length = 8 := be_length _ _
/-- Data with the key's stream. -/
def strF (key nonce data : List UInt8) (i : Nat) : UInt8 := data.getD i 0 ^^^ (enL key (ctG nonce (2 + i / 16))).getD (i % 16) 0
def strG (key nonce data : List UInt8) : List UInt8 := (List.range data.length).map (strF key nonce data)
theorem strG_length (key nonce data : List UInt8) : (strG key nonce data).length = data.length := by simp [strG]
theorem strG_twice (key nonce data : List UInt8) : strG key nonce (strG key nonce data) = data := by
  refine bytes_ext (n := data.length) (by rw [strG_length, strG_length]) rfl fun i hi => ?_
  rw [strG, range_getD _ _ _ (by rw [strG_length]; exact hi), strF, strG, range_getD _ _ _ hi, strF, UInt8.xor_assoc, UInt8.xor_self, UInt8.xor_zero]
/-- What the tag is a digest of. -/
def tagD (beside sealed : List UInt8) : List UInt8 := padG beside ++ padG sealed ++ longG beside.length ++ longG sealed.length
theorem tagD_length (beside sealed : List UInt8) : (tagD beside sealed).length % 16 = 0 := by
  simp only [tagD, List.length_append, padG_length, longG_length]; omega
def tagG (key nonce beside sealed : List UInt8) : List UInt8 := plS (hashG (enL key zeroB) (tagD beside sealed)) (enL key (ctG nonce 1))
theorem tagG_length (key nonce beside sealed : List UInt8) : (tagG key nonce beside sealed).length = 16 := plS_length _ _
def sealG (key nonce beside plain : List UInt8) : List UInt8 := strG key nonce plain ++ tagG key nonce beside (strG key nonce plain)
theorem sealG_length (key nonce beside plain : List UInt8) : (sealG key nonce beside plain).length = plain.length + 16 := by rw [sealG, List.length_append, strG_length, tagG_length]

theorem pls_zero (s : List UInt8) (h : s.length = 16) : plS zeroB s = s := bytes_ext (plS_length _ _) h fun i hi => by
  rw [plS, range_getD _ _ _ hi, zeroB, List.getD_eq_getElem?_getD, List.getElem?_replicate, if_pos hi]; simp
theorem zero_pls (s : List UInt8) (h : s.length = 16) : plS s zeroB = s := bytes_ext (plS_length _ _) h fun i hi => by
  rw [plS, range_getD _ _ _ hi, zeroB, List.getD_eq_getElem?_getD (l := List.replicate 16 0), List.getElem?_replicate, if_pos hi]; simp
/-- The digest of one block is the product. -/
theorem hashG_one (key a : List UInt8) (h : a.length = 16) : hashG key a = prodG a key := by
  rw [hashG, h, show 16 / 16 = 0 + 1 from rfl, hG, hG, show 16 * 0 = 0 from rfl, List.drop_zero, List.take_of_length_le (by omega), pls_zero a h]
theorem hashG_none (key : List UInt8) : hashG key [] = zeroB := rfl
theorem hashG_swap (a b : List UInt8) (ha : a.length = 16) (hb : b.length = 16) : hashG a b = hashG b a := by rw [hashG_one _ _ hb, hashG_one _ _ ha, prodG_comm]
theorem hashG_add (key a b : List UInt8) (ha : a.length = 16) (hb : b.length = 16) : hashG key (plS a b) = plS (hashG key a) (hashG key b) := by
  rw [hashG_one _ _ (plS_length _ _), hashG_one _ _ ha, hashG_one _ _ hb, prodG_add]
theorem mulN_zero (a : Nat) : mulN a 0 = 0 := by
  unfold mulN
  rw [xsum_congr 128 (g := fun _ => 0) fun i _ => by simp [pick], xsum_zero]
theorem mulN_zero_left (b : Nat) (hb : b < 2 ^ 128) : mulN 0 b = 0 := by rw [mulN_comm 0 b (by decide) hb, mulN_zero]
/-- The digest of one block of noughts is nought. -/
theorem prodG_zero (key : List UInt8) : prodG zeroB key = zeroB := blocks_num (prodG_length _ _) (by rw [zeroB, List.length_replicate]) (by
  rw [prodG_num, show bN zeroB = 0 from bN_zero, mulN_zero_left _ (bN_lt _)])
/-- Of nothing, beside nothing, the tag is the first counter's block. -/
theorem sealG_empty (key nonce : List UInt8) : sealG key nonce [] [] = enL key (ctG nonce 1) := by
  have hd : tagD [] [] = zeroB := by decide
  rw [sealG, show strG key nonce [] = [] from rfl, List.nil_append, tagG, hd, hashG_one _ _ (by rw [zeroB, List.length_replicate]), prodG_zero, pls_zero _ (enL_length _ _)]
theorem example_seal : ((sealG zeroB (List.replicate 12 0) [] zeroB).take 4 == [0x03, 0x88, 0xda, 0xce]) = true := by
  have h : sealG zeroB (List.replicate 12 0) [] zeroB = strG zeroB (List.replicate 12 0) zeroB ++ tagG zeroB (List.replicate 12 0) [] (strG zeroB (List.replicate 12 0) zeroB) := rfl
  rw [h, List.take_append_of_le_length (by rw [strG_length, zeroB, List.length_replicate]; omega)]
  decide +kernel
end Go.Proofs.YtoejkiblampecaaDoor
