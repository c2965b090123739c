/- What the codes of package mac are, over plain lists of bytes: the block key, HMAC by both hash functions, Expand. -/
import Derived.Test.YthcfolefdalaiaaDoorTabs
namespace Go.Proofs.YthcfolefdalaiaaDoor
open Go.RowKit Go.Sort
set_option maxRecDepth 100000
set_option linter.unusedSimpArgs false
set_option linter.unusedVariables false

/-- A byte xor a mask. -/
def xorB (m : Int) (x : UInt8) : UInt8 := UInt8.ofNat (bits .xor .u8 (x.toNat : Int) m).toNat
theorem bits8_range (op : BinOp) (x y : Int) : 0 ≤ bits op .u8 x y ∧ bits op .u8 x y < 256 := by
  unfold bits
  simp only [IntKind.wrap]
  constructor
  · exact Int.emod_nonneg _ (by decide)
  · exact Int.emod_lt_of_pos _ (by decide)
theorem xorB_toNat (m : Int) (x : UInt8) : ((xorB m x).toNat : Int) = bits .xor .u8 (x.toNat : Int) m := by
  obtain ⟨h0, h1⟩ := bits8_range .xor (x.toNat : Int) m
  simp only [xorB, UInt8.toNat_ofNat']
  omega

/-- The key that is put into a block: the key, or its digest if it is longer. -/
def keyOf32 (key : List UInt8) : List UInt8 := if 64 < key.length then sha256L kf hf key else key
def keyOf64 (key : List UInt8) : List UInt8 := if 128 < key.length then sha512L kf hf key else key
theorem keyOf32_length (key : List UInt8) : (keyOf32 key).length ≤ 64 := by
  unfold keyOf32; split
  · rw [sha256L_length]; omega
  · omega
theorem keyOf64_length (key : List UInt8) : (keyOf64 key).length ≤ 128 := by
  unfold keyOf64; split
  · rw [sha512L_length]; omega
  · omega
/-- A block of 128 bytes that begins with a key. -/
def blockL (key : List UInt8) : List UInt8 := key ++ List.replicate (128 - key.length) 0
theorem blockL_length (key : List UInt8) (h : key.length ≤ 128) : (blockL key).length = 128 := by simp [blockL]; omega
/-- The first n bytes of a block, each xor a mask. -/
def maskL (n : Nat) (m : Int) (b : List UInt8) : List UInt8 := (b.take n).map (xorB m)
theorem maskL_length (n : Nat) (m : Int) (b : List UInt8) (h : n ≤ b.length) : (maskL n m b).length = n := by simp [maskL]; omega
/-- The code of data under a block key. -/
def code32 (b data : List UInt8) : List UInt8 := sha256L kf hf (maskL 64 92 b ++ sha256L kf hf (maskL 64 54 b ++ data))
def code64 (b data : List UInt8) : List UInt8 := sha512L kf hf (maskL 128 92 b ++ sha512L kf hf (maskL 128 54 b ++ data))
theorem code32_length (b data : List UInt8) : (code32 b data).length = 32 := sha256L_length _ _ _
theorem code64_length (b data : List UInt8) : (code64 b data).length = 64 := sha512L_length _ _ _
def mac32 (key data : List UInt8) : List UInt8 := code32 (blockL (keyOf32 key)) data
def mac64 (key data : List UInt8) : List UInt8 := code64 (blockL (keyOf64 key)) data
/-- The codes t1, t2 and so on of Expand, and all of them together. -/
def tL (b info : List UInt8) : Nat → List UInt8
  | 0 => []
  | i + 1 => code32 b (tL b info i ++ info ++ [UInt8.ofNat (i + 1)])
def outL (b info : List UInt8) : Nat → List UInt8
  | 0 => []
  | i + 1 => outL b info i ++ tL b info (i + 1)
theorem tL_length (b info : List UInt8) (i : Nat) : (tL b info i).length ≤ 32 := by
  cases i with
  | zero => simp [tL]
  | succ i => simp [tL, code32_length]
theorem outL_length (b info : List UInt8) (i : Nat) : (outL b info i).length = 32 * i := by
  induction i with
  | zero => rfl
  | succ i ih => simp [outL, ih, tL, code32_length]; omega
def expL (b info : List UInt8) (n : Nat) : List UInt8 := (outL b info ((n + 31) / 32)).take n
theorem expL_length (b info : List UInt8) (n : Nat) : (expL b info n).length = n := by
  simp [expL, outL_length]; omega
theorem outL_begins (b info : List UInt8) (i d : Nat) : (outL b info (i + d)).take (32 * i) = outL b info i := by
  induction d with
  | zero => rw [Nat.add_zero, List.take_of_length_le (by rw [outL_length]; omega)]
  | succ d ih => rw [← Nat.add_assoc, outL, List.take_append, ih, outL_length, show 32 * i - 32 * (i + d) = 0 by omega]; simp
/-- What is expanded to fewer bytes is a beginning of what is expanded to more. -/
theorem expL_begins (b info : List UInt8) (m n : Nat) (h : m ≤ n) : (expL b info n).take m = expL b info m := by
  obtain ⟨d, hd⟩ : ∃ d, (n + 31) / 32 = (m + 31) / 32 + d := ⟨(n + 31) / 32 - (m + 31) / 32, by omega⟩
  rw [expL, List.take_take, Nat.min_eq_left h, hd, expL, ← outL_begins b info ((m + 31) / 32) d, List.take_take, Nat.min_eq_left (by omega)]
/-- A block key does not see noughts behind a key. -/
theorem blockL_snoc (key : List UInt8) (h : key.length < 128) : blockL (key ++ [0]) = blockL key := by
  simp only [blockL, List.length_append, List.length_cons, List.length_nil, List.append_assoc]
  congr 1
  rw [show 128 - key.length = (128 - (key.length + (0 + 1))) + 1 by omega, List.replicate_succ]
  rfl
theorem blockL_zeros (n : Nat) (h : n ≤ 128) : blockL (List.replicate n 0) = blockL [] := by
  simp only [blockL, List.length_replicate, List.replicate_append_replicate, List.length_nil, List.nil_append]
  congr 1; omega
/-- The chapter's example. -/
theorem fox : ((mac32 [107, 101, 121] [84, 104, 101, 32, 113, 117, 105, 99, 107, 32, 98, 114, 111, 119, 110, 32, 102, 111, 120, 32, 106, 117, 109, 112, 115, 32, 111, 118, 101, 114, 32, 116, 104, 101, 32, 108, 97, 122, 121, 32, 100, 111, 103]).take 4 == [247, 188, 131, 244]) = true := by decide +kernel
end Go.Proofs.YthcfolefdalaiaaDoor
