/- Blocks as two words of 64 bits, the highest bit first: the arithmetic of the program's polynomials. -/
import Derived.Test.YtoejkiblampecaaDoorGcmSpec
namespace Go.Proofs.YtoejkiblampecaaDoor
open Go.RowKit
set_option maxRecDepth 100000
set_option linter.unusedSimpArgs false
set_option linter.unusedVariables false

/-- The first word of a block (0), and the second (1). -/
def wd (s : List UInt8) (h : Nat) : Nat := xsum (fun m => pick (gbit s (64 * h + 63 - m)) (2 ^ m)) 64
theorem wd_bit (s : List UInt8) (h j : Nat) : (wd s h).testBit j = (decide (j < 64) && gbit s (64 * h + 63 - j)) := powers_bit _ _ _
theorem wd_lt (s : List UInt8) (h : Nat) : wd s h < 18446744073709551616 := powers_lt _ 64
theorem wd_xor (s t : List UInt8) (h : Nat) (hh : h < 2) : wd (plS s t) h = wd s h ^^^ wd t h := by
  apply Nat.eq_of_testBit_eq
  intro j
  rw [Nat.testBit_xor, wd_bit, wd_bit, wd_bit]
  by_cases hj : j < 64
  · rw [gbit_xor _ _ _ (by omega)]; simp [hj]
  · simp [hj]
theorem shG_bit (v : List UInt8) (n : Nat) (hn : n < 128) : gbit (shG v) n = ((decide (1 ≤ n) && gbit v (n - 1)) ^^ (gbit v 127 && decide (n = 0 ∨ n = 1 ∨ n = 2 ∨ n = 7))) := by
  rw [← bN_bit _ _ hn, shG_num, xt_bit _ _ hn, bN_bit _ 127 (by omega), bN_bit _ (n - 1) (by omega)]
theorem wd_odd (v : List UInt8) : decide (wd v 1 % 2 = 1) = gbit v 127 := by rw [odd_bit, wd_bit]; simp
theorem e1w_bit : ∀ p, p < 64 → Nat.testBit 16212958658533785600 p = decide (p = 63 ∨ p = 62 ∨ p = 61 ∨ p = 56) := by decide +kernel
theorem wd_sh0 (v : List UInt8) : wd (shG v) 0 = wd v 0 / 2 ^^^ (if wd v 1 % 2 = 1 then 16212958658533785600 else 0) := by
  apply Nat.eq_of_testBit_eq
  intro j
  rw [Nat.testBit_xor, wd_bit, half_bit, wd_bit]
  by_cases hj : j < 64
  · rw [shG_bit _ _ (by omega), ← wd_odd]
    by_cases ho : wd v 1 % 2 = 1
    · rw [if_pos ho, e1w_bit j hj, decide_eq_true ho]
      by_cases h63 : j = 63
      · subst h63; simp
      · rw [show 64 * 0 + 63 - j - 1 = 64 * 0 + 63 - (j + 1) by omega]
        have e1 : decide (1 ≤ 64 * 0 + 63 - j) = true := decide_eq_true (by omega)
        have e2 : decide (j + 1 < 64) = true := decide_eq_true (by omega)
        rw [e1, e2, decide_eq_true hj]
        simp only [Bool.true_and]
        congr 1
        apply decide_eq_decide.2; omega
    · rw [if_neg ho, decide_eq_false ho]
      by_cases h63 : j = 63
      · subst h63; simp
      · rw [show 64 * 0 + 63 - j - 1 = 64 * 0 + 63 - (j + 1) by omega]
        have e1 : decide (1 ≤ 64 * 0 + 63 - j) = true := decide_eq_true (by omega)
        have e2 : decide (j + 1 < 64) = true := decide_eq_true (by omega)
        rw [e1, e2, decide_eq_true hj]
        simp
  · have hz : Nat.testBit (if wd v 1 % 2 = 1 then 16212958658533785600 else 0) j = false := by
      split
      · exact Nat.testBit_lt_two_pow (Nat.lt_of_lt_of_le (show 16212958658533785600 < 2 ^ 64 by decide) (Nat.pow_le_pow_right (by decide) (by omega)))
      · simp
    rw [hz]; simp [hj]; omega
theorem wd_sh1 (v : List UInt8) : wd (shG v) 1 = wd v 1 / 2 ||| (wd v 0 * 9223372036854775808) % 18446744073709551616 := by
  apply Nat.eq_of_testBit_eq
  intro j
  have e : (wd v 0 * 9223372036854775808) % 18446744073709551616 = (wd v 0 <<< 63) % 2 ^ 64 := by rw [Nat.shiftLeft_eq]
  rw [e, Nat.testBit_or, wd_bit, half_bit, wd_bit, Nat.testBit_mod_two_pow, Nat.testBit_shiftLeft, wd_bit]
  by_cases hj : j < 64
  · rw [shG_bit _ _ (by omega)]
    have hred : decide (64 * 1 + 63 - j = 0 ∨ 64 * 1 + 63 - j = 1 ∨ 64 * 1 + 63 - j = 2 ∨ 64 * 1 + 63 - j = 7) = false := by apply decide_eq_false; omega
    rw [hred]
    have e1 : decide (1 ≤ 64 * 1 + 63 - j) = true := decide_eq_true (by omega)
    rw [e1]
    by_cases h63 : j = 63
    · subst h63; simp
    · rw [show 64 * 1 + 63 - j - 1 = 64 * 1 + 63 - (j + 1) by omega]
      have h1 : ¬ j ≥ 63 := by omega
      have e2 : decide (j + 1 < 64) = true := decide_eq_true (by omega)
      rw [e2]
      simp [hj, h1]
  · simp [hj]; omega
/-- The top bit of a word that has moved on. -/
theorem wd_top (s : List UInt8) (h i : Nat) (hi : i < 64) : (wd s h * 2 ^ i) % 18446744073709551616 / 9223372036854775808 = if gbit s (64 * h + i) then 1 else 0 := by
  have e1 : (wd s h * 2 ^ i) % 18446744073709551616 = (wd s h <<< i) % 2 ^ 64 := by rw [Nat.shiftLeft_eq]
  have e2 : (wd s h * 2 ^ i) % 18446744073709551616 / 9223372036854775808 < 2 := by omega
  have e3 : ((wd s h * 2 ^ i) % 18446744073709551616 / 9223372036854775808).testBit 0 = gbit s (64 * h + i) := by
    rw [e1, show (9223372036854775808 : Nat) = 2 ^ 63 from rfl, ← Nat.shiftRight_eq_div_pow, Nat.testBit_shiftRight, Nat.testBit_mod_two_pow, Nat.testBit_shiftLeft, wd_bit, show 64 * h + 63 - (63 + 0 - i) = 64 * h + i by omega]
    have h1 : (63 + 0 ≥ i) := by omega
    have h2 : 63 + 0 - i < 64 := by omega
    simp [h1, h2]
  rw [Nat.testBit_zero] at e3
  rw [← e3]
  simp only [decide_eq_true_eq]
  split <;> omega
theorem wd_zero (h : Nat) : wd zeroB h = 0 := by
  apply Nat.eq_of_testBit_eq
  intro j
  rw [wd_bit, Nat.zero_testBit]
  have : ∀ n, gbit zeroB n = false := fun n => by
    have e : zeroB.getD (n / 8) 0 = 0 := by
      rw [zeroB, List.getD_eq_getElem?_getD, List.getElem?_replicate]; split <;> rfl
    rw [gbit, e]; simp
  rw [this]; simp
/-- What is added up for a coefficient. -/
def onG (b : Bool) (s : List UInt8) : List UInt8 := if b then s else zeroB
theorem onG_length (b : Bool) (s : List UInt8) (h : s.length = 16) : (onG b s).length = 16 := by
  unfold onG; split
  · exact h
  · exact List.length_replicate
theorem wd_on (b : Bool) (s : List UInt8) (h : Nat) : wd (onG b s) h = if b then wd s h else 0 := by
  cases b
  · exact wd_zero h
  · rfl
theorem oG_succ (a b : List UInt8) (n : Nat) : oG a b (n + 1) = plS (oG a b n) (onG (gbit b n) (vG a n)) := by
  rw [oG, onG]
  cases gbit b n
  · simp only [Bool.false_eq_true, if_false]; rw [zero_pls _ (oG_length _ _ _)]
  · rfl

/-- Eight bytes as a number, the first one highest. -/
def nbK (l : List UInt8) : Nat → Nat
  | 0 => 0
  | k + 1 => (nbK l k * 256) % 18446744073709551616 ||| (l.getD k 0).toNat
theorem nbK_bit (l : List UInt8) : ∀ k, k ≤ 8 → ∀ j, (nbK l k).testBit j = (decide (j < 8 * k) && (l.getD (k - 1 - j / 8) 0).toNat.testBit (j % 8))
  | 0, _, j => by simp [nbK]
  | k + 1, h, j => by
    have e : (nbK l k * 256) % 18446744073709551616 = (nbK l k <<< 8) % 2 ^ 64 := by rw [Nat.shiftLeft_eq]
    rw [nbK, e, Nat.testBit_or, Nat.testBit_mod_two_pow, Nat.testBit_shiftLeft, nbK_bit l k (by omega)]
    by_cases h8 : j < 8
    · rw [show k + 1 - 1 - j / 8 = k by omega, show j % 8 = j by omega]
      have h1 : ¬ j ≥ 8 := by omega
      have h2 : j < 8 * (k + 1) := by omega
      simp [h1, h2]
    · rw [Nat.testBit_lt_two_pow (Nat.lt_of_lt_of_le (UInt8.toNat_lt (l.getD k 0)) (show 2 ^ 8 ≤ 2 ^ j from Nat.pow_le_pow_right (by decide) (by omega)))]
      rw [show k - 1 - (j - 8) / 8 = k + 1 - 1 - j / 8 by omega, show (j - 8) % 8 = j % 8 by omega]
      have h1 : j ≥ 8 := by omega
      by_cases hj : j < 8 * (k + 1)
      · have h2 : j - 8 < 8 * k := by omega
        have h3 : j < 64 := by omega
        simp [h1, h2, h3, hj]
      · have h2 : ¬ j - 8 < 8 * k := by omega
        simp [h2, hj]
theorem nbK_lt (l : List UInt8) : ∀ k, nbK l k < 18446744073709551616
  | 0 => by simp [nbK]
  | k + 1 => Nat.or_lt_two_pow (n := 64) (Nat.mod_lt _ (by decide)) (Nat.lt_of_lt_of_le (UInt8.toNat_lt _) (by decide))
theorem nb_first (s : List UInt8) : nbK (s.take 8) 8 = wd s 0 := by
  apply Nat.eq_of_testBit_eq
  intro j
  rw [nbK_bit _ _ (by omega), wd_bit]
  by_cases hj : j < 64
  · rw [gbit, show (64 * 0 + 63 - j) / 8 = 8 - 1 - j / 8 by omega, show 7 - (64 * 0 + 63 - j) % 8 = j % 8 by omega, List.getD_eq_getElem?_getD, List.getElem?_take, if_pos (by omega), ← List.getD_eq_getElem?_getD]
  · simp [hj]
theorem nb_second (s : List UInt8) : nbK (s.drop 8) 8 = wd s 1 := by
  apply Nat.eq_of_testBit_eq
  intro j
  rw [nbK_bit _ _ (by omega), wd_bit]
  by_cases hj : j < 64
  · rw [gbit, show (64 * 1 + 63 - j) / 8 = 8 + (8 - 1 - j / 8) by omega, show 7 - (64 * 1 + 63 - j) % 8 = j % 8 by omega, List.getD_eq_getElem?_getD, List.getElem?_drop, ← List.getD_eq_getElem?_getD]
  · simp [hj]

/-- A number written into sixteen bytes: n bytes from off on, the lowest at the end; so many of them so far. -/
def putB (l : List UInt8) (off n : Nat) (v : Nat) (m : Nat) : List UInt8 := (List.range 16).map fun k => if off + n - m ≤ k ∧ k < off + n then wbyte (v : Int) (8 * (off + n - 1 - k)) else l.getD k 0
theorem putB_length (l : List UInt8) (off n v m : Nat) : (putB l off n v m).length = 16 := by simp [putB]
theorem putB_zero (l : List UInt8) (off n v : Nat) (h : l.length = 16) : putB l off n v 0 = l := bytes_ext (putB_length _ _ _ _ _) h fun i hi => by
  rw [putB, range_getD _ _ _ hi, if_neg (by omega)]
theorem putB_succ (l : List UInt8) (off n v m : Nat) (h : m < n) (ho : off + n ≤ 16) : (putB l off n v m).set (off + (n - 1 - m)) (wbyte (v : Int) (8 * m)) = putB l off n v (m + 1) := by
  refine bytes_ext (by rw [List.length_set, putB_length]) (putB_length _ _ _ _ _) fun i hi => ?_
  rw [List.getD_eq_getElem?_getD, List.getElem?_set]
  by_cases e : off + (n - 1 - m) = i
  · rw [if_pos e, if_pos (by rw [putB_length]; omega), putB, range_getD _ _ _ hi, if_pos (by omega), show off + n - 1 - i = m by omega]; rfl
  · rw [if_neg e, ← List.getD_eq_getElem?_getD]
    unfold putB
    rw [range_getD _ _ _ hi, range_getD _ _ _ hi]
    by_cases h1 : off + n - m ≤ i ∧ i < off + n
    · rw [if_pos h1, if_pos (by omega)]
    · rw [if_neg h1, if_neg (by omega)]
theorem wbyte_bit (v s j : Nat) (hj : j < 8) : (wbyte (v : Int) s).toNat.testBit j = v.testBit (s + j) := by
  have h := wbyte_toNat (v : Int) s
  have e : (v : Int) / 2 ^ s % 256 = ((v / 2 ^ s % 256 : Nat) : Int) := by simp
  rw [e] at h
  have h' : (wbyte (v : Int) s).toNat = v / 2 ^ s % 2 ^ 8 := by omega
  rw [h', Nat.testBit_mod_two_pow, ← Nat.shiftRight_eq_div_pow, Nat.testBit_shiftRight]
  simp [hj]
theorem wd_byte (s : List UInt8) (h k : Nat) (hh : h < 2) (h1 : 8 * h ≤ k) (h2 : k < 8 * h + 8) : wbyte (wd s h : Int) (8 * (8 * h + 8 - 1 - k)) = s.getD k 0 := byte_ext fun j hj => by
  rw [wbyte_bit _ _ _ hj, wd_bit, gbit, show (64 * h + 63 - (8 * (8 * h + 8 - 1 - k) + j)) / 8 = k by omega, show 7 - (64 * h + 63 - (8 * (8 * h + 8 - 1 - k) + j)) % 8 = j by omega]
  rw [decide_eq_true (show 8 * (8 * h + 8 - 1 - k) + j < 64 by omega), Bool.true_and]
/-- The block of two words. -/
def twoB (x y : Nat) : List UInt8 := putB (putB zeroB 0 8 x 8) 8 8 y 8
theorem twoB_length (x y : Nat) : (twoB x y).length = 16 := putB_length _ _ _ _ _
theorem twoB_wd (s : List UInt8) (h : s.length = 16) : twoB (wd s 0) (wd s 1) = s := bytes_ext (twoB_length _ _) h fun i hi => by
  rw [twoB, putB, range_getD _ _ _ hi]
  by_cases h1 : 8 ≤ i
  · rw [if_pos (by omega)]; exact wd_byte s 1 i (by omega) (by omega) (by omega)
  · rw [if_neg (by omega), putB, range_getD _ _ _ hi, if_pos (by omega)]; exact wd_byte s 0 i (by omega) (by omega) (by omega)
theorem be_getD : ∀ (j x i : Nat), i < j → (be j x).getD i 0 = UInt8.ofNat (x / 256 ^ (j - 1 - i))
  | j + 1, x, 0, _ => by rw [be]; simp
  | j + 1, x, i + 1, h => by rw [be, List.getD_cons_succ, be_getD j x i (by omega), show j + 1 - 1 - (i + 1) = j - 1 - i by omega]
theorem wbyte_be (x k : Nat) : wbyte (x : Int) (8 * k) = UInt8.ofNat (x / 256 ^ k) := by
  apply UInt8.toNat_inj.1
  have h := wbyte_toNat (x : Int) (8 * k)
  have e : (x : Int) / 2 ^ (8 * k) % 256 = ((x / 2 ^ (8 * k) % 256 : Nat) : Int) := by simp
  rw [e, show 2 ^ (8 * k) = 256 ^ k by rw [Nat.pow_mul]] at h
  rw [UInt8.toNat_ofNat']
  omega
theorem twoB_be (x y : Nat) : twoB x y = be 8 x ++ be 8 y := bytes_ext (twoB_length _ _) (by rw [List.length_append, be_length, be_length]) fun i hi => by
  rw [twoB, putB, range_getD _ _ _ hi, List.getD_eq_getElem?_getD (l := be 8 x ++ be 8 y)]
  by_cases h1 : 8 ≤ i
  · rw [if_pos (by omega), List.getElem?_append_right (by rw [be_length]; exact h1), be_length, ← List.getD_eq_getElem?_getD, be_getD _ _ _ (by omega), wbyte_be, show 8 + 8 - 1 - i = 8 - 1 - (i - 8) by omega]
  · rw [if_neg (by omega), putB, range_getD _ _ _ hi, if_pos (by omega), List.getElem?_append_left (by rw [be_length]; omega), ← List.getD_eq_getElem?_getD, be_getD _ _ _ (by omega), wbyte_be, show 0 + 8 - 1 - i = 8 - 1 - i by omega]
/-- The first block of a text, noughts behind it. -/
def fitB (l : List UInt8) : List UInt8 := (List.range 16).map fun i => l.getD i 0
theorem fitB_length (l : List UInt8) : (fitB l).length = 16 := by simp [fitB]
theorem fitB_self (l : List UInt8) (h : l.length = 16) : fitB l = l := bytes_ext (fitB_length _) h fun i hi => by rw [fitB, range_getD _ _ _ hi]
theorem ctG_put (nonce : List UInt8) (n : Nat) (h : nonce.length = 12) : putB (fitB nonce) 12 4 n 4 = ctG nonce n := bytes_ext (putB_length _ _ _ _ _) (ctG_length _ _ h) fun i hi => by
  rw [putB, range_getD _ _ _ hi, ctG, List.getD_eq_getElem?_getD (l := nonce ++ be 4 n)]
  by_cases h1 : 12 ≤ i
  · rw [if_pos (by omega), List.getElem?_append_right (by omega), h, ← List.getD_eq_getElem?_getD, be_getD _ _ _ (by omega), wbyte_be, show 12 + 4 - 1 - i = 4 - 1 - (i - 12) by omega]
  · rw [if_neg (by omega), fitB, range_getD _ _ _ hi, List.getElem?_append_left (by omega), ← List.getD_eq_getElem?_getD]

/-- The digest from a block on, of so many of a text's blocks, the last one filled up. -/
def dgS (key y text : List UInt8) : Nat → List UInt8
  | 0 => y
  | k + 1 => prodG (plS (dgS key y text k) (fitB (text.drop (16 * k)))) key
theorem dgS_length (key y text : List UInt8) (h : y.length = 16) : ∀ k, (dgS key y text k).length = 16
  | 0 => h
  | k + 1 => prodG_length _ _
def dgT (key y text : List UInt8) : List UInt8 := dgS key y text ((text.length + 15) / 16)
theorem dgT_length (key y text : List UInt8) (h : y.length = 16) : (dgT key y text).length = 16 := dgS_length _ _ _ h _
/-- The digest of so many texts, each filled up. -/
def dgA (key : List UInt8) (f : Nat → ByteArray) : Nat → List UInt8
  | 0 => zeroB
  | n + 1 => dgT key (dgA key f n) (f n).data.toList
theorem dgA_length (key : List UInt8) (f : Nat → ByteArray) : ∀ n, (dgA key f n).length = 16
  | 0 => List.length_replicate
  | n + 1 => dgT_length _ _ _ (dgA_length key f n)
theorem padG_getD (l : List UInt8) (i : Nat) : (padG l).getD i 0 = l.getD i 0 := by
  rw [padG, List.getD_eq_getElem?_getD, List.getD_eq_getElem?_getD]
  by_cases h : i < l.length
  · rw [List.getElem?_append_left h]
  · rw [List.getElem?_append_right (by omega), List.getElem?_replicate, List.getElem?_eq_none (show l.length ≤ i by omega)]
    split <;> rfl
/-- The blocks of a text that is filled up, ahead of others. -/
theorem hG_text (key A t rest : List UInt8) (hA : A.length % 16 = 0) : ∀ k, k ≤ (t.length + 15) / 16 → hG key (A ++ (padG t ++ rest)) (A.length / 16 + k) = dgS key (hG key (A ++ (padG t ++ rest)) (A.length / 16)) t k
  | 0, _ => rfl
  | k + 1, h => by
    rw [← Nat.add_assoc, hG, hG_text key A t rest hA k (by omega), dgS]
    congr 2
    have hp := padG_length t
    refine bytes_ext (n := 16) (by rw [List.length_take, List.length_drop, List.length_append, List.length_append, hp]; omega) (fitB_length _) fun i hi => ?_
    rw [List.getD_eq_getElem?_getD, List.getElem?_take, if_pos hi, List.getElem?_drop, List.getElem?_append_right (by omega), List.getElem?_append_left (by rw [hp]; omega), ← List.getD_eq_getElem?_getD, padG_getD]
    rw [fitB, range_getD _ _ _ hi, List.getD_eq_getElem?_getD (l := t.drop (16 * k)), List.getElem?_drop, ← List.getD_eq_getElem?_getD]
    congr 1
    omega
theorem hG_pre (key : List UInt8) (A B C : List UInt8) : ∀ k, 16 * k ≤ A.length → hG key (A ++ B) k = hG key (A ++ C) k
  | 0, _ => rfl
  | k + 1, h => by
    rw [hG, hG, hG_pre key A B C k (by omega)]
    congr 2
    rw [List.drop_append_of_le_length (by omega), List.drop_append_of_le_length (by omega), List.take_append_of_le_length (by rw [List.length_drop]; omega), List.take_append_of_le_length (by rw [List.length_drop]; omega)]
theorem hashG_app (key A t : List UInt8) (hA : A.length % 16 = 0) : hashG key (A ++ padG t) = dgT key (hashG key A) t := by
  have hp := padG_length t
  have h := hG_text key A t [] hA _ (Nat.le_refl _)
  rw [List.append_nil] at h
  rw [hashG, List.length_append, hp, show (A.length + (t.length + 15) / 16 * 16) / 16 = A.length / 16 + (t.length + 15) / 16 by omega, h, dgT, hashG]
  congr 1
  rw [hG_pre key A (padG t) [] _ (by omega), List.append_nil]
theorem dgA_one (key : List UInt8) (f : Nat → ByteArray) (h : (f 0).data.toList.length % 16 = 0) : dgA key f 1 = hashG key (f 0).data.toList := by
  have := hashG_app key [] (f 0).data.toList rfl
  rw [List.nil_append, padG_full _ h] at this
  rw [this]; rfl
theorem dgA_three (key : List UInt8) (f : Nat → ByteArray) : dgA key f 3 = hashG key (padG (f 0).data.toList ++ padG (f 1).data.toList ++ padG (f 2).data.toList) := by
  have h0 := padG_length (f 0).data.toList
  have h1 := padG_length (f 1).data.toList
  rw [hashG_app _ _ _ (by rw [List.length_append]; omega), hashG_app _ _ _ (by omega)]
  have := hashG_app key [] (f 0).data.toList rfl
  rw [List.nil_append] at this
  rw [this]; rfl
theorem tagD_three (beside sealed : List UInt8) : tagD beside sealed = padG beside ++ padG sealed ++ padG (twoB (8 * beside.length) (8 * sealed.length)) := by
  rw [padG_full (twoB _ _) (by rw [twoB_length]), twoB_be, tagD, longG, longG]
  simp [List.append_assoc]
end Go.Proofs.YtoejkiblampecaaDoor
