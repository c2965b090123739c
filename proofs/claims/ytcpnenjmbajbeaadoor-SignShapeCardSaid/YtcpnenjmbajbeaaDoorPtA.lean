/- The points of the document on numbers: the sum, the other way round, bytes, the point of bytes, so many times a point. No program; The laws of points on numbers: a sum in any order, the neutral one, bytes back, the other way round, no time. No program; The chapter's examples of points: reckoned by the kernel. No program; Points of texts: what they are where they are OK, and where not. No program. -/
import Derived.Test.YtcpnenjmbajbeaaDoorByteN
import Derived.Lib.Strings
namespace Go.Proofs.YtcpnenjmbajbeaaDoor
section
set_option maxRecDepth 100000
set_option linter.unusedSimpArgs false
set_option linter.unusedVariables false

/-- Four numbers. -/
structure PtN where
  x : Nat
  y : Nat
  z : Nat
  t : Nat
def PtN.Ok (p : PtN) : Prop := p.x < pF ∧ p.y < pF ∧ p.z < pF ∧ p.t < pF
def zeroP : PtN := ⟨0, 1, 1, 0⟩
theorem zeroP_ok : zeroP.Ok := ⟨by decide, by decide, by decide, by decide⟩
/-- d, and twice d. -/
def facF : Nat := mulF (smallF (-121665)) (invF 121666)
theorem facF_lt : facF < pF := mulF_lt _ _
def twoF : Nat := mulF facF 2
theorem twoF_lt : twoF < pF := mulF_lt _ _
/-- The sum of two points. -/
def sumA (p q : PtN) : Nat := mulF (subF p.y p.x) (subF q.y q.x)
def sumB (p q : PtN) : Nat := mulF (addF p.y p.x) (addF q.y q.x)
def sumC (p q : PtN) : Nat := mulF (mulF p.t twoF) q.t
def sumM (p q : PtN) : Nat := mulF (addF p.z p.z) q.z
def sumP (p q : PtN) : PtN := ⟨mulF (subF (sumB p q) (sumA p q)) (subF (sumM p q) (sumC p q)), mulF (addF (sumM p q) (sumC p q)) (addF (sumB p q) (sumA p q)), mulF (subF (sumM p q) (sumC p q)) (addF (sumM p q) (sumC p q)), mulF (subF (sumB p q) (sumA p q)) (addF (sumB p q) (sumA p q))⟩
theorem sumP_ok (p q : PtN) : (sumP p q).Ok := ⟨mulF_lt _ _, mulF_lt _ _, mulF_lt _ _, mulF_lt _ _⟩
/-- The point that is the other way round. -/
def negP (p : PtN) : PtN := ⟨subF 0 p.x, p.y, p.z, subF 0 p.t⟩
theorem negP_ok (p : PtN) (h : p.Ok) : (negP p).Ok := ⟨subF_lt _ _, h.2.1, h.2.2.1, subF_lt _ _⟩
/-- The number of a point's bytes. -/
def encP (p : PtN) : Nat := mulF p.y (invF p.z) + mulF p.x (invF p.z) % 2 * 57896044618658097711785492504343953926634992332820282019728792003956564819968
def bytP (p : PtN) : List UInt8 := leF (encP p) 32
theorem bytP_length (p : PtN) : (bytP p).length = 32 := leF_length _ _
/-- A bit of bytes. -/
def bitP (l : List UInt8) (i : Nat) : Nat := (l.getD (i / 8) 0).toNat / 2 ^ (i % 8) % 2
theorem bitP_two (l : List UInt8) (i : Nat) : bitP l i = 0 ∨ bitP l i = 1 := by unfold bitP; omega
/-- A point so many times, by the bits from the highest down. -/
def mulP (p : PtN) (l : List UInt8) : Nat → PtN
  | 0 => zeroP
  | m + 1 => if bitP l (255 - m) = 1 then sumP (sumP (mulP p l m) (mulP p l m)) p else sumP (mulP p l m) (mulP p l m)
theorem mulP_ok (p : PtN) (l : List UInt8) : ∀ m, (mulP p l m).Ok
  | 0 => zeroP_ok
  | m + 1 => by
    rw [mulP]
    split
    · exact sumP_ok _ _
    · exact sumP_ok _ _
/-- The number of the first 255 bits, and the last bit. -/
def lowL (l : List UInt8) : List UInt8 := l.take 31 ++ [UInt8.ofNat ((l.getD 31 0).toNat % 128)]
def lowP (l : List UInt8) : Nat := nV (lowL l)
theorem lowL_length (l : List UInt8) (h : l.length = 32) : (lowL l).length = 32 := by simp [lowL, h]
theorem lowP_lt (l : List UInt8) (h : l.length = 32) : lowP l < 57896044618658097711785492504343953926634992332820282019728792003956564819968 := by
  have e31 : (256 : Nat) ^ 31 = 452312848583266388373324160190187140051835877600158453279131187530910662656 := by decide
  have h1 := nV_lt (l.take 31)
  have hl : (l.take 31).length = 31 := by simp [h]
  rw [lowP, lowL, nV_app, hl, nV, nV, UInt8.toNat_ofNat', e31]
  rw [hl, e31] at h1
  omega
def oddP (l : List UInt8) : Bool := decide (128 ≤ (l.getD 31 0).toNat)
/-- The square of x that goes with a y. -/
def sqrP (y : Nat) : Nat := mulF (subF (mulF y y) 1) (invF (addF (mulF facF (mulF y y)) 1))
def isP (l : List UInt8) : Bool := decide (lowP l < pF) && (rootF (sqrP (lowP l))).2 && !(oddP l && decide ((rootF (sqrP (lowP l))).1 = 0))
def xP (l : List UInt8) : Nat := if oddP l then subF 0 (rootF (sqrP (lowP l))).1 else (rootF (sqrP (lowP l))).1
theorem xP_lt (l : List UInt8) : xP l < pF := by
  unfold xP
  split
  · exact subF_lt _ _
  · exact rootF_lt _
/-- The point of 32 bytes. -/
def ofP (l : List UInt8) : PtN := if isP l then ⟨xP l, lowP l, 1, mulF (xP l) (lowP l)⟩ else zeroP
def ofE (l : List UInt8) : Int := if isP l then 0 else 21
theorem ofP_ok (l : List UInt8) : (ofP l).Ok := by
  unfold ofP
  split
  · rename_i h
    rw [isP, Bool.and_eq_true, Bool.and_eq_true, decide_eq_true_eq] at h
    exact ⟨xP_lt l, h.1.1, show 1 < pF by decide, mulF_lt _ _⟩
  · exact zeroP_ok
/-- The answers for any texts: the point of a text, its error; so many times a point; a point's bytes as a text. -/
def ofPT (s : ByteArray) : PtN := if s.size = 32 then ofP s.data.toList else zeroP
def ofET (s : ByteArray) : Int := if s.size = 32 then ofE s.data.toList else 1
theorem ofPT_ok (s : ByteArray) : (ofPT s).Ok := by
  unfold ofPT
  split
  · exact ofP_ok _
  · exact zeroP_ok
def mulPT (p : PtN) (s : ByteArray) : PtN := if s.size = 32 then mulP p s.data.toList 256 else zeroP
def mulET (s : ByteArray) : Int := if s.size = 32 then 0 else 1
theorem mulPT_ok (p : PtN) (s : ByteArray) : (mulPT p s).Ok := by
  unfold mulPT
  split
  · exact mulP_ok _ _ _
  · exact zeroP_ok
def txtP (p : PtN) : ByteArray := ⟨(bytP p).toArray⟩
theorem txtP_size (p : PtN) : (txtP p).size = 32 := bytP_length p
def basL : List UInt8 := leF (mulF 4 (invF 5)) 32
def baseP : PtN := ofP basL
theorem baseP_ok : baseP.Ok := ofP_ok _
end

section
set_option maxRecDepth 100000
set_option linter.unusedSimpArgs false
set_option linter.unusedVariables false

theorem mulF_left (a b c : Nat) : mulF a (mulF b c) = mulF b (mulF a c) := by rw [← mulF_assoc, mulF_comm a b, mulF_assoc]
theorem sumA_comm (p q : PtN) : sumA p q = sumA q p := mulF_comm _ _
theorem sumB_comm (p q : PtN) : sumB p q = sumB q p := mulF_comm _ _
theorem sumC_comm (p q : PtN) : sumC p q = sumC q p := by
  rw [sumC, sumC, mulF_assoc, mulF_assoc, mulF_comm twoF, mulF_comm twoF, ← mulF_assoc, ← mulF_assoc, mulF_comm p.t]
theorem sumM_comm (p q : PtN) : sumM p q = sumM q p := by
  rw [sumM, sumM, mulF_comm, mulF_add, mulF_comm (addF q.z q.z), mulF_add, mulF_comm q.z]
/-- A sum goes in any order. -/
theorem sumP_comm (p q : PtN) : sumP p q = sumP q p := by
  rw [sumP, sumP, sumA_comm, sumB_comm, sumC_comm, sumM_comm]

theorem subF_zero (a : Nat) (ha : a < pF) : subF a 0 = a := by rw [subF, Nat.sub_zero, Nat.add_mod_right, Nat.mod_eq_of_lt ha]
theorem subF_subF (a : Nat) (ha : a < pF) : subF 0 (subF 0 a) = a := by
  rw [subF, subF, Nat.zero_add, Nat.zero_add]
  rcases Nat.eq_zero_or_pos a with h | h
  · subst h; rw [Nat.sub_zero, Nat.mod_self, Nat.sub_zero, Nat.mod_self]
  · rw [Nat.mod_eq_of_lt (show pF - a < pF by omega), show pF - (pF - a) = a by omega, Nat.mod_eq_of_lt ha]
/-- The other way round twice is the point. -/
theorem negP_negP (p : PtN) (h : p.Ok) : negP (negP p) = p := by
  rw [negP, negP, subF_subF p.x h.1, subF_subF p.t h.2.2.2]
theorem addF_zero (a : Nat) (ha : a < pF) : addF a 0 = a := by rw [addF, Nat.add_zero, Nat.mod_eq_of_lt ha]
theorem sub_twice (x y : Nat) (hx : x < pF) (hy : y < pF) : subF (addF y x) (subF y x) = addF x x := by
  have hp := pF_pos
  rw [subF, addF, addF, subF]
  have h1 : (y + (pF - x)) % pF < pF := Nat.mod_lt _ hp
  have h2 := Nat.mod_add_div (y + (pF - x)) pF
  have h3 := Nat.mod_add_div (y + x) pF
  have e : (y + x) % pF + (pF - (y + (pF - x)) % pF) + pF * ((y + x) / pF) + pF = x + x + pF * ((y + (pF - x)) / pF) + pF := by
    generalize pF * ((y + (pF - x)) / pF) = A at *
    generalize pF * ((y + x) / pF) = B at *
    omega
  have e2 := congrArg (· % pF) e
  simp only [Nat.add_mod_right, Nat.add_mul_mod_self_left] at e2
  exact e2
theorem add_twice (x y : Nat) (hx : x < pF) (hy : y < pF) : addF (addF y x) (subF y x) = addF y y := by
  have hp := pF_pos
  rw [addF, addF, addF, subF, Nat.mod_add_mod, Nat.add_mod_mod, show y + x + (y + (pF - x)) = y + y + pF by omega, Nat.add_mod_right]
theorem addF_two (a : Nat) : addF a a = mulF 2 a := by rw [addF, mulF, Nat.two_mul]
theorem mulF_zero_left (a : Nat) : mulF 0 a = 0 := by rw [mulF, Nat.zero_mul, Nat.zero_mod]
theorem inv_one : invF 1 = 1 := by rw [invF, powF, Nat.one_pow]; decide
theorem inv_four : mulF 4 (invF 4) = 1 := by
  rw [invF, powF_reckoned _ _ (by decide)]
  decide +kernel
theorem inv_two : mulF 2 (invF 2) = 1 := by rw [mulF_comm]; exact example_inv
/-- Nothing is added to a point that was read. -/
theorem sum_zero (x y t : Nat) (hx : x < pF) (hy : y < pF) : bytP (sumP ⟨x, y, 1, t⟩ zeroP) = bytP ⟨x, y, 1, t⟩ := by
  have ea : sumA ⟨x, y, 1, t⟩ zeroP = subF y x := by
    show mulF (subF y x) (subF 1 0) = _
    rw [subF_zero 1 (by decide), mul_one _ (subF_lt _ _)]
  have eb : sumB ⟨x, y, 1, t⟩ zeroP = addF y x := by
    show mulF (addF y x) (addF 1 0) = _
    rw [addF_zero 1 (by decide), mul_one _ (addF_lt _ _)]
  have ec : sumC ⟨x, y, 1, t⟩ zeroP = 0 := mul_zero _
  have em : sumM ⟨x, y, 1, t⟩ zeroP = 2 := by
    show mulF (addF 1 1) 1 = 2
    decide
  have es : sumP ⟨x, y, 1, t⟩ zeroP = ⟨mulF (addF x x) 2, mulF 2 (addF y y), 4, mulF (addF x x) (addF y y)⟩ := by
    rw [sumP, ea, eb, ec, em, subF_zero 2 (by decide), addF_zero 2 (by decide), sub_twice x y hx hy, add_twice x y hx hy]
    rfl
  have h4 : ∀ a, a < pF → mulF (mulF 2 (addF a a)) (invF 4) = a := fun a ha => by
    rw [addF_two, ← mulF_assoc 2 2, show mulF 2 2 = 4 by decide, mulF_comm 4 a, mulF_assoc, inv_four, mul_one _ ha]
  rw [es, bytP, bytP, encP, encP]
  show leF (mulF (mulF 2 (addF y y)) (invF 4) + mulF (mulF (addF x x) 2) (invF 4) % 2 * _) 32 = leF (mulF y (invF 1) + mulF x (invF 1) % 2 * _) 32
  rw [h4 y hy, mulF_comm (addF x x) 2, h4 x hx, inv_one, mul_one _ hy, mul_one _ hx]
theorem enc_one (p : PtN) (hx : p.x = 0) (h : mulF p.y (invF p.z) = 1) : encP p = 1 := by
  rw [encP, hx, h, mulF_zero_left]
theorem zero_bytes : bytP zeroP = leF 1 32 := by
  have h1 : mulF zeroP.y (invF zeroP.z) = 1 := by
    have hz : zeroP.z = 1 := rfl
    have hy : zeroP.y = 1 := rfl
    rw [hz, hy, inv_one]
    decide
  rw [bytP, enc_one zeroP rfl h1]

/-- The number of 32 bytes: that of the first 255 bits, and the last one. -/
theorem nV_parts (l : List UInt8) (h : l.length = 32) : nV l = lowP l + (if oddP l then 1 else 0) * 57896044618658097711785492504343953926634992332820282019728792003956564819968 := by
  have e31 : (256 : Nat) ^ 31 = 452312848583266388373324160190187140051835877600158453279131187530910662656 := by decide
  have hl : (l.take 31).length = 31 := by simp [h]
  have hd : l = l.take 31 ++ [l.getD 31 0] := by
    have h1 : l.drop 31 = [l.getD 31 0] := by
      rw [List.drop_eq_getElem_cons (by omega), List.drop_of_length_le (by omega), List.getD_eq_getElem?_getD, List.getElem?_eq_getElem (by omega)]
      rfl
    rw [← h1, List.take_append_drop]
  have hb := UInt8.toNat_lt (l.getD 31 0)
  have h1 : nV l = nV (l.take 31) + 256 ^ 31 * (l.getD 31 0).toNat := by
    conv => lhs; rw [hd]
    rw [nV_app, hl, nV, nV, Nat.mul_zero, Nat.add_zero]
  rw [h1, lowP, lowL, nV_app, hl, nV, nV, UInt8.toNat_ofNat', oddP, e31]
  by_cases ho : 128 ≤ (l.getD 31 0).toNat
  · rw [decide_eq_true ho, if_pos rfl]; omega
  · rw [decide_eq_false ho, if_neg (by decide)]; omega
theorem isP_parts (l : List UInt8) (h : isP l = true) : lowP l < pF ∧ (rootF (sqrP (lowP l))).2 = true ∧ ¬ (oddP l = true ∧ (rootF (sqrP (lowP l))).1 = 0) := by
  rw [isP, Bool.and_eq_true, Bool.and_eq_true, decide_eq_true_eq] at h
  refine ⟨h.1.1, h.1.2, fun ⟨h1, h2⟩ => ?_⟩
  rw [h1, h2] at h
  exact absurd h.2 (by decide)
/-- Of a point that was read the bytes are what was read. -/
theorem bytes_back (l : List UInt8) (hl : l.length = 32) (h : isP l = true) : bytP (ofP l) = l := by
  obtain ⟨h1, h2, h3⟩ := isP_parts l h
  obtain ⟨_, heven⟩ := rootF_square _ h2
  have hpar : xP l % 2 = if oddP l then 1 else 0 := by
    rw [xP]
    by_cases ho : oddP l = true
    · rw [if_pos ho, if_pos ho, subF, Nat.zero_add]
      have hne : (rootF (sqrP (lowP l))).1 ≠ 0 := fun e => h3 ⟨ho, e⟩
      have hlt := rootF_lt (sqrP (lowP l))
      have hp : pF % 2 = 1 := by decide
      generalize (rootF (sqrP (lowP l))).1 = r at *
      rw [Nat.mod_eq_of_lt (show pF - r < pF by omega)]
      omega
    · rw [if_neg ho, if_neg ho]; exact heven
  have hn := nV_parts l hl
  rw [bytP, ofP, if_pos h]
  show leF (mulF (lowP l) (invF 1) + mulF (xP l) (invF 1) % 2 * _) 32 = l
  rw [inv_one, mul_one _ h1, mul_one _ (xP_lt l), hpar, ← hn]
  refine nV_inj _ _ (by rw [leF_length, hl]) ?_
  have := nV_lt l
  rw [hl] at this
  rw [nV_leF, Nat.mod_eq_of_lt this]

/-- No time a point: noughts and powers of two. -/
theorem powP_pow (x m n : Nat) : powF (powF x m) n = powF x (m * n) := by rw [powF, powF, powF, ← Nat.pow_mod, Nat.pow_mul]
theorem powP_mul (x m n : Nat) : mulF (powF x m) (powF x n) = powF x (m + n) := by rw [mulF, powF, powF, powF, ← Nat.mul_mod, ← Nat.pow_add]
theorem powP_one (m : Nat) : mulF 2 (powF 2 m) = powF 2 (m + 1) := by rw [mulF, powF, powF, Nat.mul_mod_mod, ← Nat.pow_succ']
theorem pow_inv (m n : Nat) (h : mulF 2 (powF 2 m) = 1) : mulF (powF 2 n) (powF (powF 2 n) m) = 1 := by
  rw [powP_pow, powP_mul, show n + n * m = (m + 1) * n by rw [Nat.add_mul, Nat.one_mul, Nat.mul_comm n, Nat.add_comm], ← powP_pow, ← powP_one, h, powF, Nat.one_pow]
  decide
theorem powF_inv (n : Nat) : mulF (powF 2 n) (invF (powF 2 n)) = 1 := pow_inv (pF - 2) n inv_two
theorem double_zero (n : Nat) : sumP ⟨0, powF 2 n, powF 2 n, 0⟩ ⟨0, powF 2 n, powF 2 n, 0⟩ = ⟨0, powF 2 (4 * n + 2), powF 2 (4 * n + 2), 0⟩ := by
  have hz := powF_lt 2 n
  have ea : sumA ⟨0, powF 2 n, powF 2 n, 0⟩ ⟨0, powF 2 n, powF 2 n, 0⟩ = mulF (powF 2 n) (powF 2 n) := by
    show mulF (subF (powF 2 n) 0) (subF (powF 2 n) 0) = _
    rw [subF_zero _ hz]
  have eb : sumB ⟨0, powF 2 n, powF 2 n, 0⟩ ⟨0, powF 2 n, powF 2 n, 0⟩ = mulF (powF 2 n) (powF 2 n) := by
    show mulF (addF (powF 2 n) 0) (addF (powF 2 n) 0) = _
    rw [addF_zero _ hz]
  have ec : sumC ⟨0, powF 2 n, powF 2 n, 0⟩ ⟨0, powF 2 n, powF 2 n, 0⟩ = 0 := mul_zero _
  have em : sumM ⟨0, powF 2 n, powF 2 n, 0⟩ ⟨0, powF 2 n, powF 2 n, 0⟩ = mulF (mulF 2 (powF 2 n)) (powF 2 n) := by
    show mulF (addF (powF 2 n) (powF 2 n)) (powF 2 n) = _
    rw [addF_two]
  have e1 : mulF (powF 2 n) (powF 2 n) = powF 2 (2 * n) := by rw [mulF, powF, powF, ← Nat.mul_mod, ← Nat.pow_add, show n + n = 2 * n by omega]
  have e2 : mulF (mulF 2 (powF 2 n)) (powF 2 n) = powF 2 (2 * n + 1) := by
    rw [mulF_assoc, e1, mulF, powF, powF, Nat.mul_mod_mod, ← Nat.pow_succ']
  have e3 : addF (powF 2 (2 * n)) (powF 2 (2 * n)) = powF 2 (2 * n + 1) := by rw [addF_two, mulF, powF, powF, Nat.mul_mod_mod, ← Nat.pow_succ']
  have e4 : mulF (powF 2 (2 * n + 1)) (powF 2 (2 * n + 1)) = powF 2 (4 * n + 2) := by rw [mulF, powF, powF, ← Nat.mul_mod, ← Nat.pow_add, show 2 * n + 1 + (2 * n + 1) = 4 * n + 2 by omega]
  rw [sumP, ea, eb, ec, em, e1, e2, sub_self _ (powF_lt _ _), subF_zero _ (powF_lt _ _), addF_zero _ (powF_lt _ _), e3, e4, mulF_zero_left]
theorem no_time (p : PtN) (l : List UInt8) (h : ∀ i, bitP l i = 0) : ∀ m, ∃ n, mulP p l m = ⟨0, powF 2 n, powF 2 n, 0⟩
  | 0 => ⟨0, by
    rw [mulP, show powF 2 0 = 1 by decide]; rfl⟩
  | m + 1 => by
    obtain ⟨n, hn⟩ := no_time p l h m
    exact ⟨4 * n + 2, by rw [mulP, h, if_neg (by decide), hn, double_zero]⟩
theorem no_time_bytes (p : PtN) (l : List UInt8) (h : ∀ i, bitP l i = 0) (m : Nat) : bytP (mulP p l m) = leF 1 32 := by
  obtain ⟨n, hn⟩ := no_time p l h m
  rw [hn, bytP, enc_one ⟨0, powF 2 n, powF 2 n, 0⟩ rfl (powF_inv n)]
end

section
set_option maxRecDepth 100000
set_option linter.unusedSimpArgs false
set_option linter.unusedVariables false

theorem fac_val : facF = 37095705934669439343138083508754565189542113879843219016388785533085940283555 := by
  have h : invF 121666 = 37095705934669439343138083508754565189542113879843219016388785533085940283556 := by
    rw [invF, powF_reckoned _ _ (by decide)]
    decide +kernel
  rw [facF, h]
  decide +kernel
theorem base_val : mulF 4 (invF 5) = 46316835694926478169428394003475163141307993866256225615783033603165251855960 := by
  have h : invF 5 = 11579208923731619542357098500868790785326998466564056403945758400791312963990 := by
    rw [invF, powF_reckoned _ _ (by decide)]
    decide +kernel
  rw [h]
  decide +kernel
theorem base_sqr : sqrP 46316835694926478169428394003475163141307993866256225615783033603165251855960 = 26187595835145689230469591415084376402084551887632582719101735842039498021991 := by
  have h1 : addF (mulF 37095705934669439343138083508754565189542113879843219016388785533085940283555 (mulF 46316835694926478169428394003475163141307993866256225615783033603165251855960 46316835694926478169428394003475163141307993866256225615783033603165251855960)) 1 = 35320460721920060721965471946471712506633951349663716574434581141966314745466 := by decide +kernel
  have h2 : invF 35320460721920060721965471946471712506633951349663716574434581141966314745466 = 36615873626505047815401509688526422966742341385236691817538452001808239043262 := by
    rw [invF, powF_reckoned _ _ (by decide)]
    decide +kernel
  rw [sqrP, fac_val, h1, h2]
  decide +kernel
theorem base_root : (rootF 26187595835145689230469591415084376402084551887632582719101735842039498021991).2 = true := by
  have h : rootX 26187595835145689230469591415084376402084551887632582719101735842039498021991 = pwQ 26187595835145689230469591415084376402084551887632582719101735842039498021991 ((pF + 3) / 8) 256 := powF_reckoned _ _ (by decide)
  have h2 : powF 2 ((pF - 1) / 4) = pwQ 2 ((pF - 1) / 4) 256 := powF_reckoned _ _ (by decide)
  rw [rootF, rootY, h, h2]
  decide +kernel
theorem nought_sqr : sqrP 0 = 57896044618658097711785492504343953926634992332820282019728792003956564819948 := by
  have h1 : addF (mulF 37095705934669439343138083508754565189542113879843219016388785533085940283555 (mulF 0 0)) 1 = 1 := by decide +kernel
  have h2 : invF 1 = 1 := by
    rw [invF, powF_reckoned _ _ (by decide)]
    decide +kernel
  rw [sqrP, fac_val, h1, h2]
  decide +kernel
theorem nought_root : (rootF 57896044618658097711785492504343953926634992332820282019728792003956564819948).2 = true := by
  have h : rootX 57896044618658097711785492504343953926634992332820282019728792003956564819948 = pwQ 57896044618658097711785492504343953926634992332820282019728792003956564819948 ((pF + 3) / 8) 256 := powF_reckoned _ _ (by decide)
  have h2 : powF 2 ((pF - 1) / 4) = pwQ 2 ((pF - 1) / 4) 256 := powF_reckoned _ _ (by decide)
  rw [rootF, rootY, h, h2]
  decide +kernel
theorem two_sqr : sqrP 2 = 43446857792565604583783486763960003913525092658904367978015407342224011949000 := by
  have h1 : addF (mulF 37095705934669439343138083508754565189542113879843219016388785533085940283555 (mulF 2 2)) 1 = 32590734501361561948981349026330352904898470853732312026097558124430631494323 := by decide +kernel
  have h2 : invF 32590734501361561948981349026330352904898470853732312026097558124430631494323 = 53079649009960600002451490590882637255598359108181644005824330450045713862966 := by
    rw [invF, powF_reckoned _ _ (by decide)]
    decide +kernel
  rw [sqrP, fac_val, h1, h2]
  decide +kernel
theorem two_root : (rootF 43446857792565604583783486763960003913525092658904367978015407342224011949000).2 = false := by
  have h : rootX 43446857792565604583783486763960003913525092658904367978015407342224011949000 = pwQ 43446857792565604583783486763960003913525092658904367978015407342224011949000 ((pF + 3) / 8) 256 := powF_reckoned _ _ (by decide)
  have h2 : powF 2 ((pF - 1) / 4) = pwQ 2 ((pF - 1) / 4) 256 := powF_reckoned _ _ (by decide)
  rw [rootF, rootY, h, h2]
  decide +kernel
theorem basL_val : basL = leF 46316835694926478169428394003475163141307993866256225615783033603165251855960 32 := by rw [basL, base_val]
theorem base_low : lowP basL = 46316835694926478169428394003475163141307993866256225615783033603165251855960 := by
  rw [basL_val]
  decide +kernel
theorem base_odd : oddP basL = false := by
  rw [basL_val]
  decide +kernel
theorem base_is : isP basL = true := by
  rw [isP, base_low, base_sqr, base_root, base_odd]
  decide +kernel
theorem base_bytes : bytP baseP = basL := bytes_back basL (leF_length _ 32) base_is
theorem base_first : basL.getD 0 0 = 88 ∧ basL.getD 1 0 = 102 := by
  rw [basL_val]
  decide +kernel
/-- The text of a small number. -/
theorem nought_is : ofE (leF 0 32) = 0 := by
  have h1 : lowP (leF 0 32) = 0 := by decide +kernel
  have h2 : oddP (leF 0 32) = false := by decide +kernel
  have h3 : isP (leF 0 32) = true := by
    rw [isP, h1, nought_sqr, nought_root, h2]
    decide +kernel
  rw [ofE, h3]
  rfl
theorem two_not : ofE (leF 2 32) = 21 := by
  have h1 : lowP (leF 2 32) = 2 := by decide +kernel
  have h3 : isP (leF 2 32) = false := by
    rw [isP, h1, two_sqr, two_root]
    simp
  rw [ofE, h3]
  rfl
end

section
set_option maxRecDepth 100000
set_option linter.unusedSimpArgs false
set_option linter.unusedVariables false

theorem ofET_ok (s : ByteArray) (h : ofET s = 0) : s.size = 32 ∧ isP s.data.toList = true := by
  unfold ofET at h
  by_cases hs : s.size = 32
  · rw [if_pos hs, ofE] at h
    refine ⟨hs, ?_⟩
    cases hi : isP s.data.toList
    · rw [hi] at h; exact absurd h (by decide)
    · rfl
  · rw [if_neg hs] at h; exact absurd h (by decide)
theorem ofPT_bad (s : ByteArray) (h : ofET s ≠ 0) : ofPT s = zeroP := by
  unfold ofET at h
  unfold ofPT
  by_cases hs : s.size = 32
  · rw [if_pos hs] at h ⊢
    rw [ofE] at h
    rw [ofP]
    cases hi : isP s.data.toList
    · rfl
    · rw [hi] at h; exact absurd rfl h
  · rw [if_neg hs]
theorem txt_back (s : ByteArray) (h : ofET s = 0) : txtP (ofPT s) = s := by
  obtain ⟨h1, h2⟩ := ofET_ok s h
  have hl : s.data.toList.length = 32 := by rw [← Lib.size_eq]; exact h1
  rw [txtP, ofPT, if_pos h1, bytes_back _ hl h2]
/-- A point that was read has 1 for its third number. -/
def Plain (p : PtN) : Prop := ∃ x y t, p = ⟨x, y, 1, t⟩ ∧ x < pF ∧ y < pF
theorem ofP_plain (l : List UInt8) (h : isP l = true) : Plain (ofP l) := by
  obtain ⟨h1, _, _⟩ := isP_parts l h
  exact ⟨xP l, lowP l, mulF (xP l) (lowP l), by rw [ofP, if_pos h], xP_lt l, h1⟩
/-- The point that the laws take: of what is no point the base. -/
def lawP (s : ByteArray) : PtN := if ofET s = 0 then ofPT s else baseP
theorem lawP_plain (s : ByteArray) : Plain (lawP s) := by
  unfold lawP
  split
  · rename_i h
    obtain ⟨h1, h2⟩ := ofET_ok s h
    rw [ofPT, if_pos h1]
    exact ofP_plain _ h2
  · exact ofP_plain _ base_is
theorem plain_zero (p : PtN) (h : Plain p) : txtP (sumP p zeroP) = txtP p := by
  obtain ⟨x, y, t, rfl, hx, hy⟩ := h
  rw [txtP, txtP, sum_zero x y t hx hy]
end
end Go.Proofs.YtcpnenjmbajbeaaDoor
