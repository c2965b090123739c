/- Plain mathematics of the message schedule and the rounds, at words of 64 bits, as the program reckons them. -/
import Derived.Test.YthcfolefdalaiaaDoorLoad64
import Derived.Test.YthcfolefdalaiaaDoorMath32
import Derived.Laws.Rows
namespace Go.Proofs.YthcfolefdalaiaaDoor
open Go.RowKit Go.Sort
set_option maxRecDepth 100000
set_option linter.unusedSimpArgs false
set_option linter.unusedVariables false

def ext64 (l : List Int) (t : Nat) : Int :=
  IntKind.u64.wrap (IntKind.u64.wrap (IntKind.u64.wrap (l.getD (t - 16) 0 + l.getD (t - 7) 0) + shf3_64 (l.getD (t - 15) 0) 1 8 7) + shf3_64 (l.getD (t - 2) 0) 19 61 6)
def sch64 (ws : List Int) : Nat → List Int
  | 0 => ws
  | n + 1 => sch64 ws n ++ [ext64 (sch64 ws n) (16 + n)]
def wds64 (b : List UInt8) : List Int := (List.range 16).map fun t => ld64 ((b.drop (t * 8)).take 8)
theorem sch64_length (ws : List Int) (h : ws.length = 16) (n : Nat) : (sch64 ws n).length = 16 + n := by
  induction n with
  | zero => simpa [sch64] using h
  | succ n ih => simp [sch64, ih]; omega
theorem wds64_length (b : List UInt8) : (wds64 b).length = 16 := by simp [wds64]
theorem wds64_snoc (b : List UInt8) (k : Nat) (h : k < 16) : (wds64 b).take (k + 1) = (wds64 b).take k ++ [ld64 ((b.drop (k * 8)).take 8)] := by
  rw [List.take_succ_eq_append_getElem (by rw [wds64_length]; exact h)]
  simp [wds64]

/-- So many words, and noughts behind them up to eighty: the cells of the array. -/
def pad80_64 (l : List Int) : Array Value := ((l ++ List.replicate (80 - l.length) 0).map (Value.int .u64)).toArray
theorem pad80_64_size (l : List Int) (h : l.length ≤ 80) : (pad80_64 l).size = 80 := by simp [pad80_64]; omega
theorem pad80_64_get (l : List Int) (j : Nat) (h : j < l.length) : (pad80_64 l)[j]? = some (.int .u64 (l.getD j 0)) := by
  simp [pad80_64, List.getElem?_append, h]
theorem pad80_64_get0 (l : List Int) (j : Nat) (h : l.length ≤ j) (h' : j < 80) : (pad80_64 l)[j]? = some (.int .u64 0) := by
  have : j - l.length < 80 - l.length := by omega
  simp [pad80_64, List.getElem?_append, Nat.not_lt.2 h, this]
theorem pad80_64_set (l : List Int) (x : Int) (h : l.length < 80) : (pad80_64 l).setIfInBounds l.length (.int .u64 x) = pad80_64 (l ++ [x]) := by
  have e : 80 - l.length = (80 - (l.length + 1)) + 1 := by omega
  simp only [pad80_64, List.length_append, List.length_cons, List.length_nil, Nat.zero_add]
  rw [e, List.replicate_succ]
  simp [List.setIfInBounds_toArray, List.set_append]
theorem pad80_64_one (l : List Int) (h : l.length ≤ 80) : (pad80_64 l).all (·.oneCell') = true := by
  simp [pad80_64, Value.oneCell']

/-- One round: the eight words a to h, the round's constant and word. -/
def rnd64 (s : W8) (k w : Int) : W8 :=
  let x := IntKind.u64.wrap (IntKind.u64.wrap (IntKind.u64.wrap (IntKind.u64.wrap (s.h + rot3_64 s.e 14 18 41) + bits .xor .u64 (bits .and .u64 s.e s.f) (bits .and .u64 (bits .xor .u64 IntKind.u64.max s.e) s.g)) + k) + w)
  let y := IntKind.u64.wrap (rot3_64 s.a 28 34 39 + bits .xor .u64 (bits .xor .u64 (bits .and .u64 s.a s.b) (bits .and .u64 s.a s.c)) (bits .and .u64 s.b s.c))
  ⟨IntKind.u64.wrap (x + y), s.a, s.b, s.c, IntKind.u64.wrap (s.d + x), s.e, s.f, s.g⟩
def rnds64 (K W : Nat → Int) (s : W8) : Nat → W8
  | 0 => s
  | n + 1 => rnd64 (rnds64 K W s n) (K n) (W n)
def add64 (s t : W8) : W8 := ⟨IntKind.u64.wrap (s.a + t.a), IntKind.u64.wrap (s.b + t.b), IntKind.u64.wrap (s.c + t.c), IntKind.u64.wrap (s.d + t.d), IntKind.u64.wrap (s.e + t.e), IntKind.u64.wrap (s.f + t.f), IntKind.u64.wrap (s.g + t.g), IntKind.u64.wrap (s.h + t.h)⟩
/-- The cells of eight words. -/
abbrev W8.cells64 (s : W8) : Array Value := #[.int .u64 s.a, .int .u64 s.b, .int .u64 s.c, .int .u64 s.d, .int .u64 s.e, .int .u64 s.f, .int .u64 s.g, .int .u64 s.h]
/-- The state behind k of the eight additions. -/
def mix64 (s t : W8) (k : Nat) : Array Value := ((List.range 8).map fun j => Value.int .u64 (if j < k then IntKind.u64.wrap (s.at j + t.at j) else s.at j)).toArray
theorem mix64_set (s t : W8) (k : Nat) (h : k < 8) : (mix64 s t k).setIfInBounds k (.int .u64 (IntKind.u64.wrap (s.at k + t.at k))) = mix64 s t (k + 1) := by
  rcases lt8 h with rfl | rfl | rfl | rfl | rfl | rfl | rfl | rfl <;> rfl
theorem mix64_get (s t : W8) (k : Nat) (h : k < 8) : (mix64 s t k)[k]? = some (.int .u64 (s.at k)) := by
  rcases lt8 h with rfl | rfl | rfl | rfl | rfl | rfl | rfl | rfl <;> rfl
theorem mix64_zero (s t : W8) : mix64 s t 0 = s.cells64 := rfl
theorem mix64_eight (s t : W8) : mix64 s t 8 = (add64 s t).cells64 := rfl
def comp64 (K : Nat → Int) (s : W8) (b : List UInt8) : W8 := add64 s (rnds64 K (fun t => (sch64 (wds64 b) 64).getD t 0) s 80)
end Go.Proofs.YthcfolefdalaiaaDoor
