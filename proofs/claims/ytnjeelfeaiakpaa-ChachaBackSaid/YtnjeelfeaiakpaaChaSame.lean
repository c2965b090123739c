/- The program's Block and Xor answer as the reference's. -/
import Derived.Test.YtnjeelfeaiakpaaChaXown
namespace Go.Proofs.Ytnjeelfeaiakpaa
open Go.RowKit Go.Sort
set_option maxRecDepth 100000
set_option linter.unusedSimpArgs false
set_option linter.unusedVariables false

set_option maxHeartbeats 2000000 in
theorem chaBlockSame (k n : ByteArray) (i : Int) : ∃ (x : ByteArray) (q : Int), (∀ W, Calls Try.prog 7 #[.string k, .string n, .int .i64 i] W fun e w' => e = .returned (.tuple #[.string x, .int .i64 q]) ∧ Below W.heap.size W w') ∧ (∀ W, Calls Try.prog 8 #[.string k, .string n, .int .i64 i] W fun e w' => e = .returned (.tuple #[.string x, .int .i64 q]) ∧ Below W.heap.size W w') := by
  by_cases h1 : k.size = 32 ∧ n.size = 12
  · obtain ⟨hk, hn⟩ := h1
    by_cases h2 : 0 ≤ i ∧ i ≤ 4294967295
    · obtain ⟨j, rfl⟩ : ∃ j : Nat, i = (j : Int) := ⟨i.toNat, by omega⟩
      exact ⟨_, _, fun W => ownBlock_any k n j W hk hn (by omega), fun W => refBlock_any k n j W hk hn (by omega)⟩
    · exact ⟨_, _, fun W => ownBlockErr_any k n i 1 W (by decide) (fun W => checkArg_any k n i W hk hn (by omega)), fun W => refBlockArg_any k n i W hk hn (by omega)⟩
  · exact ⟨_, _, fun W => ownBlockErr_any k n i 21 W (by decide) (fun W => checkKey_any k n i W (by omega)), fun W => refBlockKey_any k n i W (by omega)⟩
set_option maxHeartbeats 2000000 in
theorem chaXorSame (k n : ByteArray) (i : Int) (s : ByteArray) (hs : s.size ≤ 1073741824) : ∃ (x : ByteArray) (q : Int), (∀ W, Calls Try.prog 10 #[.string k, .string n, .int .i64 i, .string s] W fun e w' => e = .returned (.tuple #[.string x, .int .i64 q]) ∧ Below W.heap.size W w') ∧ (∀ W, Calls Try.prog 11 #[.string k, .string n, .int .i64 i, .string s] W fun e w' => e = .returned (.tuple #[.string x, .int .i64 q]) ∧ Below W.heap.size W w') := by
  by_cases h1 : k.size = 32 ∧ n.size = 12
  · obtain ⟨hk, hn⟩ := h1
    by_cases h2 : 0 ≤ i ∧ i ≤ 4294967295
    · obtain ⟨j, rfl⟩ : ∃ j : Nat, i = (j : Int) := ⟨i.toNat, by omega⟩
      by_cases h3 : j + (s.size + 63) / 64 ≤ 4294967296
      · exact ⟨_, _, fun W => ownXor_any k n j s W hk hn (by omega) hs h3, fun W => refXor_any k n j s W hk hn (by omega) hs h3⟩
      · exact ⟨_, _, fun W => ownXorBig_any k n j s W hk hn (by omega) hs (by omega), fun W => refXorBig_any k n j s W hk hn (by omega) hs (by omega)⟩
    · exact ⟨_, _, fun W => ownXorErr_any k n i 1 s W (by decide) (fun W => checkArg_any k n i W hk hn (by omega)), fun W => refXorErr_any k n i 1 s W (by decide) (fun W => refBlockArg_any k n i W hk hn (by omega))⟩
  · exact ⟨_, _, fun W => ownXorErr_any k n i 21 s W (by decide) (fun W => checkKey_any k n i W (by omega)), fun W => refXorErr_any k n i 21 s W (by decide) (fun W => refBlockKey_any k n i W (by omega))⟩
end Go.Proofs.Ytnjeelfeaiakpaa
