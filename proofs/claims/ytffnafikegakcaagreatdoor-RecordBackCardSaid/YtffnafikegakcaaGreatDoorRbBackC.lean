/- What the boxes of RecordBack answer, one call after another. -/
import Derived.Test.YtffnafikegakcaaGreatDoorRbInv
import Derived.Test.YtffnafikegakcaaGreatDoorRcSt
namespace Go.Proofs.YtffnafikegakcaaGreatDoor
open Go.RowKit Go.Sort
set_option maxRecDepth 100000
set_option linter.unusedSimpArgs false
set_option linter.unusedVariables false

/-- The i-th text, sealed. -/
def slB (su : Int) (ky iv : ByteArray) (p i : Nat) (d : ByteArray) : ByteArray := hidB ⟨su, ky, iv, i⟩ (padB ((20 + i % 4 : Nat) : Int) d p)
def txl (su : Int) (ky iv : ByteArray) (p : Nat) (ss : List ByteArray) (n : Nat) : List ByteArray := (List.range n).map fun i => slB su ky iv p i (ss.getD i emB)
theorem txl_length (su : Int) (ky iv : ByteArray) (p : Nat) (ss : List ByteArray) (n : Nat) : (txl su ky iv p ss n).length = n := by simp [txl]
theorem txl_succ (su : Int) (ky iv : ByteArray) (p : Nat) (ss : List ByteArray) (n : Nat) : txl su ky iv p ss n ++ [slB su ky iv p n (ss.getD n emB)] = txl su ky iv p ss (n + 1) := by simp [txl, List.range_succ]
theorem txl_get (su : Int) (ky iv : ByteArray) (p : Nat) (ss : List ByteArray) (n i : Nat) (h : i < n) : (txl su ky iv p ss n).getD i emB = slB su ky iv p i (ss.getD i emB) := by
  rw [txl, List.getD_eq_getElem?_getD, List.getElem?_map, List.getElem?_range h]; rfl
theorem kind_cast (i : Nat) : (((20 + i % 4 : Nat)) : Int) = 20 + ((i % 4 : Nat) : Int) := by omega
theorem slB_size (su : Int) (ky iv : ByteArray) (p i : Nat) (d : ByteArray) (h : BOk ⟨su, ky, iv, i⟩) : (slB su ky iv p i d).size = d.size + p + 17 := by
  rw [slB, (hid_ok _ h _).2, padB_size]; omega
section
variable {su : Int} {ky iv d : ByteArray} {p i b : Nat} {W : World}
theorem back_seal (hok : BOk ⟨su, ky, iv, i⟩) (hi : i < 65536) (hd : d.size ≤ 500) (hp : p ≤ 255) (hT : TabQ W) (hx : BxAt W b ⟨su, ky, iv, i⟩) :
    Calls Tryz.prog 11 #[.pointer (some ⟨b, 0, none⟩), .int .i64 (20 + ((i % 4 : Nat) : Int)), .string d, .int .i64 (p : Int)] W fun e W' => ∃ x : ByteArray, e = .returned (.tuple #[.string x, .int .i64 0]) ∧ x.size = d.size + p + 22 ∧ x.extract 5 x.size = slB su ky iv p i d ∧ BxAt W' b ⟨su, ky, iv, i + 1⟩ ∧ But b W W' := by
  have hk4 : i % 4 < 4 := Nat.mod_lt _ (by decide)
  have hk : isK ((20 + i % 4 : Nat) : Int) = true := by simp [isK]; omega
  have he := sel_ok ⟨su, ky, iv, i⟩ ((20 + i % 4 : Nat) : Int) d p hi hk (by omega) (by omega)
  rw [← kind_cast]
  refine (boxSeal_any b ⟨su, ky, iv, i⟩ _ d p W hx hok hT (by unfold maxLen; omega)).mono ?_
  rintro e W' ⟨h1, h2, h3⟩
  rw [selS, if_pos he] at h2
  rw [selA, he] at h1
  exact ⟨_, h1, selX_size _ hok _ _ _ he, selX_tail _ _ _ _ he, h2, h3⟩
theorem back_flip (hok : BOk ⟨su, ky, iv, i⟩) (hi : i < 65536) (hd : d.size ≤ 500) (hp : p ≤ 255) (q : Nat) (h1 : d.size + p + 1 ≤ q) (h2 : q < d.size + p + 17) (hT : TabQ W) (hx : BxAt W b ⟨su, ky, iv, i⟩) :
    Calls Tryz.prog 13 #[.pointer (some ⟨b, 0, none⟩), .string (flipB (slB su ky iv p i d) q)] W fun e W' => e = .returned (.tuple #[.int .i64 0, .string emB, .int .i64 20]) ∧ BxAt W' b ⟨su, ky, iv, i⟩ ∧ But b W W' := by
  have hs := slB_size su ky iv p i d hok
  have ho := open_flip ⟨su, ky, iv, i⟩ hok hi (padB ((20 + i % 4 : Nat) : Int) d p) (by rw [padB_size]; omega) q (by rw [show hidB _ _ = slB su ky iv p i d from rfl, hs]; omega) (by rw [show hidB _ _ = slB su ky iv p i d from rfl, hs]; omega)
  refine (boxOpen_any b ⟨su, ky, iv, i⟩ _ W hx hok hT (by rw [flipB_size, hs]; unfold maxLen; omega)).mono ?_
  rintro e W' ⟨g1, g2, g3⟩
  rw [show slB su ky iv p i d = hidB ⟨su, ky, iv, i⟩ (padB ((20 + i % 4 : Nat) : Int) d p) from rfl] at g1 g2
  rw [ho.1] at g1
  rw [ho.2] at g2
  exact ⟨g1, g2, g3⟩
theorem back_open (hok : BOk ⟨su, ky, iv, i⟩) (hi : i < 65536) (hd : d.size ≤ 500) (hp : p ≤ 255) (hT : TabQ W) (hx : BxAt W b ⟨su, ky, iv, i⟩) :
    Calls Tryz.prog 13 #[.pointer (some ⟨b, 0, none⟩), .string (slB su ky iv p i d)] W fun e W' => e = .returned (.tuple #[.int .i64 (20 + ((i % 4 : Nat) : Int)), .string d, .int .i64 0]) ∧ BxAt W' b ⟨su, ky, iv, i + 1⟩ ∧ But b W W' := by
  have hs := slB_size su ky iv p i d hok
  have hk4 : i % 4 < 4 := Nat.mod_lt _ (by decide)
  have ho := open_sealed ⟨su, ky, iv, i⟩ hok hi (20 + i % 4) (by omega) d p (by omega) (by omega)
  refine (boxOpen_any b ⟨su, ky, iv, i⟩ _ W hx hok hT (by rw [hs]; unfold maxLen; omega)).mono ?_
  rintro e W' ⟨g1, g2, g3⟩
  rw [show slB su ky iv p i d = hidB ⟨su, ky, iv, i⟩ (padB ((20 + i % 4 : Nat) : Int) d p) from rfl] at g1 g2
  rw [ho.1, kind_cast] at g1
  rw [ho.2] at g2
  exact ⟨g1, g2, g3⟩
end
end Go.Proofs.YtffnafikegakcaaGreatDoor
