/- The points of the document on numbers: the sum, the other way round, bytes, the point of bytes, so many times a point. No program. -/
import Derived.Test.YtcpdehfmlmmgiaaDoorByteNum
namespace Go.Proofs.YtcpdehfmlmmgiaaDoor
set_option maxRecDepth 100000
set_option linter.unusedSimpArgs false
set_option linter.unusedVariables false

/-- Four numbers. -/
structure PtN where
  x : Nat
  y : Nat
  z : Nat
  t : Nat
def PtN.Ok (p : PtN) : Prop := p.x < pF ∧ p.y < pF ∧ p.z < pF ∧ p.t < pF
def zeroP : PtN := ⟨0, 1, 1, 0⟩
theorem zeroP_ok : zeroP.Ok := ⟨by decide, by decide, by decide, by decide⟩
/-- d, and twice d. -/
def facF : Nat := mulF (smallF (-121665)) (invF 121666)
theorem facF_lt : facF < pF := mulF_lt _ _
def twoF : Nat := mulF facF 2
theorem twoF_lt : twoF < pF := mulF_lt _ _
/-- The sum of two points. -/
def sumA (p q : PtN) : Nat := mulF (subF p.y p.x) (subF q.y q.x)
def sumB (p q : PtN) : Nat := mulF (addF p.y p.x) (addF q.y q.x)
def sumC (p q : PtN) : Nat := mulF (mulF p.t twoF) q.t
def sumM (p q : PtN) : Nat := mulF (addF p.z p.z) q.z
def sumP (p q : PtN) : PtN := ⟨mulF (subF (sumB p q) (sumA p q)) (subF (sumM p q) (sumC p q)), mulF (addF (sumM p q) (sumC p q)) (addF (sumB p q) (sumA p q)), mulF (subF (sumM p q) (sumC p q)) (addF (sumM p q) (sumC p q)), mulF (subF (sumB p q) (sumA p q)) (addF (sumB p q) (sumA p q))⟩
theorem sumP_ok (p q : PtN) : (sumP p q).Ok := ⟨mulF_lt _ _, mulF_lt _ _, mulF_lt _ _, mulF_lt _ _⟩
/-- The point that is the other way round. -/
def negP (p : PtN) : PtN := ⟨subF 0 p.x, p.y, p.z, subF 0 p.t⟩
theorem negP_ok (p : PtN) (h : p.Ok) : (negP p).Ok := ⟨subF_lt _ _, h.2.1, h.2.2.1, subF_lt _ _⟩
/-- The number of a point's bytes. -/
def encP (p : PtN) : Nat := mulF p.y (invF p.z) + mulF p.x (invF p.z) % 2 * 57896044618658097711785492504343953926634992332820282019728792003956564819968
def bytP (p : PtN) : List UInt8 := leF (encP p) 32
theorem bytP_length (p : PtN) : (bytP p).length = 32 := leF_length _ _
/-- A bit of bytes. -/
def bitP (l : List UInt8) (i : Nat) : Nat := (l.getD (i / 8) 0).toNat / 2 ^ (i % 8) % 2
theorem bitP_two (l : List UInt8) (i : Nat) : bitP l i = 0 ∨ bitP l i = 1 := by unfold bitP; omega
/-- A point so many times, by the bits from the highest down. -/
def mulP (p : PtN) (l : List UInt8) : Nat → PtN
  | 0 => zeroP
  | m + 1 => if bitP l (255 - m) = 1 then sumP (sumP (mulP p l m) (mulP p l m)) p else sumP (mulP p l m) (mulP p l m)
theorem mulP_ok (p : PtN) (l : List UInt8) : ∀ m, (mulP p l m).Ok
  | 0 => zeroP_ok
  | m + 1 => by
    rw [mulP]
    split
    · exact sumP_ok _ _
    · exact sumP_ok _ _
/-- The number of the first 255 bits, and the last bit. -/
def lowL (l : List UInt8) : List UInt8 := l.take 31 ++ [UInt8.ofNat ((l.getD 31 0).toNat % 128)]
def lowP (l : List UInt8) : Nat := nV (lowL l)
theorem lowL_length (l : List UInt8) (h : l.length = 32) : (lowL l).length = 32 := by simp [lowL, h]
theorem lowP_lt (l : List UInt8) (h : l.length = 32) : lowP l < 57896044618658097711785492504343953926634992332820282019728792003956564819968 := by
  have e31 : (256 : Nat) ^ 31 = 452312848583266388373324160190187140051835877600158453279131187530910662656 := by decide
  have h1 := nV_lt (l.take 31)
  have hl : (l.take 31).length = 31 := by simp [h]
  rw [lowP, lowL, nV_app, hl, nV, nV, UInt8.toNat_ofNat', e31]
  rw [hl, e31] at h1
  omega
def oddP (l : List UInt8) : Bool := decide (128 ≤ (l.getD 31 0).toNat)
/-- The square of x that goes with a y. -/
def sqrP (y : Nat) : Nat := mulF (subF (mulF y y) 1) (invF (addF (mulF facF (mulF y y)) 1))
def isP (l : List UInt8) : Bool := decide (lowP l < pF) && (rootF (sqrP (lowP l))).2 && !(oddP l && decide ((rootF (sqrP (lowP l))).1 = 0))
def xP (l : List UInt8) : Nat := if oddP l then subF 0 (rootF (sqrP (lowP l))).1 else (rootF (sqrP (lowP l))).1
theorem xP_lt (l : List UInt8) : xP l < pF := by
  unfold xP
  split
  · exact subF_lt _ _
  · exact rootF_lt _
/-- The point of 32 bytes. -/
def ofP (l : List UInt8) : PtN := if isP l then ⟨xP l, lowP l, 1, mulF (xP l) (lowP l)⟩ else zeroP
def ofE (l : List UInt8) : Int := if isP l then 0 else 21
theorem ofP_ok (l : List UInt8) : (ofP l).Ok := by
  unfold ofP
  split
  · rename_i h
    rw [isP, Bool.and_eq_true, Bool.and_eq_true, decide_eq_true_eq] at h
    exact ⟨xP_lt l, h.1.1, show 1 < pF by decide, mulF_lt _ _⟩
  · exact zeroP_ok
/-- The answers for any texts: the point of a text, its error; so many times a point; a point's bytes as a text. -/
def ofPT (s : ByteArray) : PtN := if s.size = 32 then ofP s.data.toList else zeroP
def ofET (s : ByteArray) : Int := if s.size = 32 then ofE s.data.toList else 1
theorem ofPT_ok (s : ByteArray) : (ofPT s).Ok := by
  unfold ofPT
  split
  · exact ofP_ok _
  · exact zeroP_ok
def mulPT (p : PtN) (s : ByteArray) : PtN := if s.size = 32 then mulP p s.data.toList 256 else zeroP
def mulET (s : ByteArray) : Int := if s.size = 32 then 0 else 1
theorem mulPT_ok (p : PtN) (s : ByteArray) : (mulPT p s).Ok := by
  unfold mulPT
  split
  · exact mulP_ok _ _ _
  · exact zeroP_ok
def txtP (p : PtN) : ByteArray := ⟨(bytP p).toArray⟩
theorem txtP_size (p : PtN) : (txtP p).size = 32 := bytP_length p
def basL : List UInt8 := leF (mulF 4 (invF 5)) 32
def baseP : PtN := ofP basL
theorem baseP_ok : baseP.Ok := ofP_ok _
end Go.Proofs.YtcpdehfmlmmgiaaDoor
