/- What the laws of things ask of the program's calls. -/
import Derived.Test.YtimokmhgpigliaaDrChk
import Derived.Test.YtimokmhgpigliaaDrWr
import Derived.Test.YtimokmhgpigliaaDrInt
import Derived.Test.YtimokmhgpigliaaDrWInt
import Derived.Test.YtimokmhgpigliaaDrGrp
import Derived.Test.YtimokmhgpigliaaDrNums
namespace Go.Proofs.Ytimokmhgpigliaa
open Go.RowKit Go.Sort
set_option maxRecDepth 100000
set_option linter.unusedSimpArgs false
set_option linter.unusedVariables false

structure DrCalls : Prop where
  wr : ∀ (n : Int) (b : ByteArray) (w : World), -9223372036854775808 ≤ n → n ≤ 9223372036854775807 → b.size ≤ 1000000000 → Calls Try.prog 15 #[.int .i64 n, .string b] w fun e w' => e = .returned (.tuple #[.string (wrX n b), .int .i64 (wrE n b)]) ∧ Below w.heap.size w w'
  rd : ∀ (s : ByteArray) (w : World), s.size ≤ 1000000000 → Calls Try.prog 17 #[.string s] w fun e w' => e = .returned (.tuple #[.int .i64 (rdTag s), .string (rdBody s), .string (rdRest s), .int .i64 (rdErr s)]) ∧ Below w.heap.size w w'
  ck : ∀ (s : ByteArray) (w : World), s.size ≤ 1000000000 → Calls Try.prog 19 #[.string s] w fun e w' => e = .returned (.int .i64 (chkK 7 s)) ∧ Below w.heap.size w w'
  ri : ∀ (s : ByteArray) (w : World), s.size ≤ 1000000000 → Calls Try.prog 21 #[.string s] w fun e w' => e = .returned (.tuple #[.int .i64 (riV s), .int .i64 (riErr s)]) ∧ Below w.heap.size w w'
  int : ∀ (n : Int) (w : World), -9223372036854775808 ≤ n → n ≤ 9223372036854775807 → Calls Try.prog 23 #[.int .i64 n] w fun e w' => e = .returned (.string (wrX 2 (intB n))) ∧ Below w.heap.size w w'
  oid : ∀ (ao : Option Addr) (n c : Nat) (zs : List Int) (w : World), zs.length = n → n ≤ 1000000 → n ≤ c → (∀ k, -9223372036854775808 ≤ zs.getD k 0 ∧ zs.getD k 0 ≤ 9223372036854775807) → IntsAt w ao zs → Calls Try.prog 25 #[.slice ao n c] w fun e w' => e = .returned (.tuple #[.string (oidX zs), .int .i64 (oidErr zs)]) ∧ Below w.heap.size w w'
  ro : ∀ (s : ByteArray) (w : World), s.size ≤ 1000000 → Calls Try.prog 27 #[.string s] w fun e w' => (∃ ao c, e = .returned (.tuple #[.slice ao (roV s).length c, .int .i64 (roErr s)]) ∧ IntsAt w' ao (roV s) ∧ (roV s).length ≤ c) ∧ Below w.heap.size w w'
theorem DrCalls.roW (C : DrCalls) (s : ByteArray) (w : World) (hs : s.size ≤ 1000000) : Calls Try.prog 27 #[.string s] w fun e w' => (∃ ao c, e = .returned (.tuple #[.slice ao (roV s).length c, .int .i64 (roErr s)]) ∧ IntsAt w' ao (roV s)) ∧ Below w.heap.size w w' :=
  (C.ro s w hs).mono fun e w' ⟨⟨ao, c, h1, h2, _⟩, h3⟩ => ⟨⟨ao, c, h1, h2⟩, h3⟩
end Go.Proofs.Ytimokmhgpigliaa
