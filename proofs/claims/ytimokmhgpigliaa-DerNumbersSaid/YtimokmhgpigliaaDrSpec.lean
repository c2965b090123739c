/- Things of the document on bytes: tags, what a thing is, the first thing of bytes. No program. -/
import Derived.Test.YtimokmhgpigliaaConvS
namespace Go.Proofs.Ytimokmhgpigliaa
set_option maxRecDepth 100000
set_option linter.unusedSimpArgs false
set_option linter.unusedVariables false

/-- Whether a number is a tag. -/
def isT (n : Int) : Bool := decide (0 ≤ n) && decide (n ≤ 255) && (n % 32 != 31)
/-- The bytes of a length; a thing. -/
def lenL (n : Nat) : List UInt8 := if n < 128 then [UInt8.ofNat n] else if n < 256 then [129, UInt8.ofNat n] else [130, UInt8.ofNat (n / 256), UInt8.ofNat n]
def wrL (tag : Int) (n : Nat) : List UInt8 := UInt8.ofNat tag.toNat :: lenL n
def wrE (tag : Int) (body : ByteArray) : Int := if isT tag = true then (if body.size < 65536 then 0 else 13) else 1
def wrX (tag : Int) (body : ByteArray) : ByteArray := if wrE tag body = 0 then ⟨(wrL tag body.size).toArray⟩ ++ body else ⟨#[]⟩
/-- The first thing of bytes: where its body begins, how many bytes it has, what is wrong. -/
def rdB (l : List UInt8) (i : Nat) : Nat := (l.getD i 0).toNat
theorem rdB_lt (l : List UInt8) (i : Nat) : rdB l i < 256 := UInt8.toNat_lt _
def rdA (l : List UInt8) : Nat := if 128 < rdB l 1 then rdB l 1 - 126 else 2
def rdN (l : List UInt8) : Nat := if rdB l 1 = 129 then rdB l 2 else if rdB l 1 = 130 then 256 * rdB l 2 + rdB l 3 else rdB l 1
def rdE (l : List UInt8) : Int :=
  if l.length = 0 then 10 else if rdB l 0 % 32 = 31 then 11 else if l.length < 2 then 10 else if rdB l 1 = 128 ∨ 130 < rdB l 1 then 11 else if l.length < rdA l then 10 else
    if (rdB l 1 = 129 ∧ rdN l < 128) ∨ (rdB l 1 = 130 ∧ rdN l < 256) then 11 else if l.length < rdA l + rdN l then 10 else 0
def rdTag (s : ByteArray) : Int := if rdE s.data.toList = 0 then (rdB s.data.toList 0 : Int) else 0
def rdBody (s : ByteArray) : ByteArray := if rdE s.data.toList = 0 then s.extract (rdA s.data.toList) (rdA s.data.toList + rdN s.data.toList) else ⟨#[]⟩
def rdRest (s : ByteArray) : ByteArray := if rdE s.data.toList = 0 then s.extract (rdA s.data.toList + rdN s.data.toList) s.size else ⟨#[]⟩
def rdErr (s : ByteArray) : Int := rdE s.data.toList
theorem rd_bad (s : ByteArray) (e : Int) (h : rdE s.data.toList = e) (he : e ≠ 0) : rdTag s = 0 ∧ rdBody s = ⟨#[]⟩ ∧ rdRest s = ⟨#[]⟩ ∧ rdErr s = e := by
  have hn : ¬ rdE s.data.toList = 0 := by rw [h]; exact he
  exact ⟨if_neg hn, if_neg hn, if_neg hn, h⟩
theorem rd_good (s : ByteArray) (h : rdE s.data.toList = 0) : rdTag s = (rdB s.data.toList 0 : Int) ∧ rdBody s = s.extract (rdA s.data.toList) (rdA s.data.toList + rdN s.data.toList) ∧ rdRest s = s.extract (rdA s.data.toList + rdN s.data.toList) s.size ∧ rdErr s = 0 :=
  ⟨if_pos h, if_pos h, if_pos h, h⟩
theorem rd_at (s : ByteArray) (i : Nat) (hi : i < s.size) : ∀ k : i < s.size, ((s[i]'k).toNat : Int) = (rdB s.data.toList i : Int) := fun k => by
  rw [rdB, List.getD_eq_getElem?_getD, Array.getElem?_toList]
  simp [k]
  rfl
theorem isT_byte (b : Nat) (h : b < 256) : isT (b : Int) = !decide (b % 32 = 31) := by
  rw [isT, decide_eq_true (by omega), decide_eq_true (by omega), Bool.true_and, Bool.true_and, bne]
  congr 1
  by_cases c : b % 32 = 31
  · rw [decide_eq_true c]; simp; omega
  · rw [decide_eq_false c]; simp; omega
open Go.RowKit Go.Sort in
theorem results_tmp4 {fn : Func} {t u v x : Tmp} (h : fn.results = #[.tmp t, .tmp u, .tmp v, .tmp x]) (tmps : Array Value) (P : Program) (w : World) :
    (results fn tmps).run P w = .ok (.tuple #[tmps.getD t undef, tmps.getD u undef, tmps.getD v undef, tmps.getD x undef]) w := by
  simp [results, h]
end Go.Proofs.Ytimokmhgpigliaa
