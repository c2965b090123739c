/- Plain mathematics of the message schedule and the rounds, at words of 32 bits, as the program reckons them. -/
import Derived.Test.YthcfolefdalaiaaDoorLoad32
import Derived.Laws.Rows
namespace Go.Proofs.YthcfolefdalaiaaDoor
open Go.RowKit Go.Sort
set_option maxRecDepth 100000
set_option linter.unusedSimpArgs false
set_option linter.unusedVariables false

structure W8 where
  a : Int
  b : Int
  c : Int
  d : Int
  e : Int
  f : Int
  g : Int
  h : Int
def W8.at (s : W8) : Nat → Int
  | 0 => s.a | 1 => s.b | 2 => s.c | 3 => s.d | 4 => s.e | 5 => s.f | 6 => s.g | _ => s.h

def ext32 (l : List Int) (t : Nat) : Int :=
  (l.getD (t - 16) 0 + l.getD (t - 7) 0 + shf3_32 (l.getD (t - 15) 0) 7 18 3 + shf3_32 (l.getD (t - 2) 0) 17 19 10) % 4294967296
def sch32 (ws : List Int) : Nat → List Int
  | 0 => ws
  | n + 1 => sch32 ws n ++ [ext32 (sch32 ws n) (16 + n)]
def wds32 (b : List UInt8) : List Int := (List.range 16).map fun t => ld32 ((b.drop (t * 4)).take 4)
theorem sch32_length (ws : List Int) (h : ws.length = 16) (n : Nat) : (sch32 ws n).length = 16 + n := by
  induction n with
  | zero => simpa [sch32] using h
  | succ n ih => simp [sch32, ih]; omega
theorem wds32_length (b : List UInt8) : (wds32 b).length = 16 := by simp [wds32]
theorem wds32_snoc (b : List UInt8) (k : Nat) (h : k < 16) : (wds32 b).take (k + 1) = (wds32 b).take k ++ [ld32 ((b.drop (k * 4)).take 4)] := by
  rw [List.take_succ_eq_append_getElem (by rw [wds32_length]; exact h)]
  simp [wds32]

/-- So many words, and noughts behind them up to eighty: the cells of the array. -/
def pad80_32 (l : List Int) : Array Value := ((l ++ List.replicate (80 - l.length) 0).map (Value.int .u32)).toArray
theorem pad80_32_size (l : List Int) (h : l.length ≤ 80) : (pad80_32 l).size = 80 := by simp [pad80_32]; omega
theorem pad80_32_get (l : List Int) (j : Nat) (h : j < l.length) : (pad80_32 l)[j]? = some (.int .u32 (l.getD j 0)) := by
  simp [pad80_32, List.getElem?_append, h]
theorem pad80_32_get0 (l : List Int) (j : Nat) (h : l.length ≤ j) (h' : j < 80) : (pad80_32 l)[j]? = some (.int .u32 0) := by
  have : j - l.length < 80 - l.length := by omega
  simp [pad80_32, List.getElem?_append, Nat.not_lt.2 h, this]
theorem pad80_32_set (l : List Int) (x : Int) (h : l.length < 80) : (pad80_32 l).setIfInBounds l.length (.int .u32 x) = pad80_32 (l ++ [x]) := by
  have e : 80 - l.length = (80 - (l.length + 1)) + 1 := by omega
  simp only [pad80_32, List.length_append, List.length_cons, List.length_nil, Nat.zero_add]
  rw [e, List.replicate_succ]
  simp [List.setIfInBounds_toArray, List.set_append]
theorem pad80_32_one (l : List Int) (h : l.length ≤ 80) : (pad80_32 l).all (·.oneCell') = true := by
  simp [pad80_32, Value.oneCell']

/-- One round: the eight words a to h, the round's constant and word. -/
def rnd32 (s : W8) (k w : Int) : W8 :=
  let x := s.h + rot3_32 s.e 6 11 25 + bits .xor .u32 (bits .and .u32 s.e s.f) (bits .and .u32 (bits .xor .u32 IntKind.u32.max s.e) s.g) + k + w
  let y := rot3_32 s.a 2 13 22 + bits .xor .u32 (bits .xor .u32 (bits .and .u32 s.a s.b) (bits .and .u32 s.a s.c)) (bits .and .u32 s.b s.c)
  ⟨(x + y) % 4294967296, s.a, s.b, s.c, (s.d + x) % 4294967296, s.e, s.f, s.g⟩
def rnds32 (K W : Nat → Int) (s : W8) : Nat → W8
  | 0 => s
  | n + 1 => rnd32 (rnds32 K W s n) (K n) (W n)
def add32 (s t : W8) : W8 := ⟨(s.a + t.a) % 4294967296, (s.b + t.b) % 4294967296, (s.c + t.c) % 4294967296, (s.d + t.d) % 4294967296, (s.e + t.e) % 4294967296, (s.f + t.f) % 4294967296, (s.g + t.g) % 4294967296, (s.h + t.h) % 4294967296⟩
/-- The cells of eight words. -/
abbrev W8.cells32 (s : W8) : Array Value := #[.int .u32 s.a, .int .u32 s.b, .int .u32 s.c, .int .u32 s.d, .int .u32 s.e, .int .u32 s.f, .int .u32 s.g, .int .u32 s.h]
/-- The state behind k of the eight additions. -/
def mix32 (s t : W8) (k : Nat) : Array Value := ((List.range 8).map fun j => Value.int .u32 (if j < k then (s.at j + t.at j) % 4294967296 else s.at j)).toArray
theorem lt8 {k : Nat} (h : k < 8) : k = 0 ∨ k = 1 ∨ k = 2 ∨ k = 3 ∨ k = 4 ∨ k = 5 ∨ k = 6 ∨ k = 7 := by omega
theorem mix32_set (s t : W8) (k : Nat) (h : k < 8) : (mix32 s t k).setIfInBounds k (.int .u32 ((s.at k + t.at k) % 4294967296)) = mix32 s t (k + 1) := by
  rcases lt8 h with rfl | rfl | rfl | rfl | rfl | rfl | rfl | rfl <;> rfl
theorem mix32_get (s t : W8) (k : Nat) (h : k < 8) : (mix32 s t k)[k]? = some (.int .u32 (s.at k)) := by
  rcases lt8 h with rfl | rfl | rfl | rfl | rfl | rfl | rfl | rfl <;> rfl
theorem mix32_zero (s t : W8) : mix32 s t 0 = s.cells32 := rfl
theorem mix32_eight (s t : W8) : mix32 s t 8 = (add32 s t).cells32 := rfl
def comp32 (K : Nat → Int) (s : W8) (b : List UInt8) : W8 := add32 s (rnds32 K (fun t => (sch32 (wds32 b) 48).getD t 0) s 64)
end Go.Proofs.YthcfolefdalaiaaDoor
