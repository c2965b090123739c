/- The small functions of package sha at words of 32 bits: what each call returns. No condition but the words' own bounds; sha.load at words of 32 bits: the word whose bytes a string is, one byte behind the other. The string is no longer than a string may be; Plain mathematics of the message schedule and the rounds, at words of 32 bits, as the program reckons them; sha.schedule at words of 32 bits: the eighty cells of its array, of a block of 64 bytes; sha.compress at words of 32 bits: the eight words behind one more block of 64 bytes. The table of the round constants lies in its variable; The small functions of package sha at words of 64 bits: what each call returns. No condition but the words' own bounds; sha.load at words of 64 bits: the word whose bytes a string is, one byte behind the other. The string is no longer than a string may be; Plain mathematics of the message schedule and the rounds, at words of 64 bits, as the program reckons them; sha.schedule at words of 64 bits: the eighty cells of its array, of a block of 128 bytes; sha.compress at words of 64 bits: the eight words behind one more block of 64 bytes. The table of the round constants lies in its variable. -/
import Derived.Test.YtjjgakkijhjaiaaDoorBase
import Derived.Laws.Rows
namespace Go.Proofs.YtjjgakkijhjaiaaDoor
section
open Go.RowKit Go.Sort
set_option maxRecDepth 100000
set_option linter.unusedSimpArgs false
set_option linter.unusedVariables false

/-- A word turned right, as the walk spells it. -/
def rotr32 (v n : Int) : Int := bits .or .u32 (v / 2 ^ n.toNat) (v * 2 ^ (32 - n).toNat % 4294967296)
def rot3_32 (v a b c : Int) : Int := bits .xor .u32 (bits .xor .u32 (rotr32 v a) (rotr32 v b)) (rotr32 v c)
def shf3_32 (v a b c : Int) : Int := bits .xor .u32 (bits .xor .u32 (rotr32 v a) (rotr32 v b)) (v / 2 ^ c.toNat)

theorem rotr32_any (v n : Int) (w : World) (h0 : 0 ≤ n) (h1 : n ≤ 32) :
    Calls Tryd.prog 93 #[.int .u32 v, .int .u64 n, .int .u64 32] w fun e w' => e = .returned (.int .u32 (rotr32 v n)) ∧ w' = w := by
  go_enter Tryd.func93, Tryd.ntmps93
  go_wp2
  go_ret
  exact ⟨by simp [rotr32], rfl⟩

theorem rotations32_any (v a b c : Int) (w : World) (a0 : 0 ≤ a) (a1 : a ≤ 32) (b0 : 0 ≤ b) (b1 : b ≤ 32) (c0 : 0 ≤ c) (c1 : c ≤ 32) :
    Calls Tryd.prog 86 #[.int .u32 v, .agg #[.int .u64 a, .int .u64 b, .int .u64 c], .int .u64 32] w fun e w' => e = .returned (.int .u32 (rot3_32 v a b c)) ∧ Below w.heap.size w w' := by
  go_enter Tryd.func86, Tryd.ntmps86
  go_wp2_with fail
  go_quiet ((go_at_call 93; exact Calls.quiet_of_same (rotr32_any _ _ _ (by assumption) (by assumption))))
  go_wp2
  go_ret
  exact ⟨by simp [rot3_32], below_drewN ((Below.refl _ _).alloc (Nat.le_refl _) _) _⟩

theorem shifted32_any (v a b c : Int) (w : World) (a0 : 0 ≤ a) (a1 : a ≤ 32) (b0 : 0 ≤ b) (b1 : b ≤ 32) (c0 : 0 ≤ c) (c1 : c ≤ 32) :
    Calls Tryd.prog 92 #[.int .u32 v, .agg #[.int .u64 a, .int .u64 b, .int .u64 c], .int .u64 32] w fun e w' => e = .returned (.int .u32 (shf3_32 v a b c)) ∧ Below w.heap.size w w' := by
  go_enter Tryd.func92, Tryd.ntmps92
  go_wp2_with fail
  go_quiet ((go_at_call 93; exact Calls.quiet_of_same (rotr32_any _ _ _ (by assumption) (by assumption))))
  go_wp2
  go_ret
  exact ⟨by simp [shf3_32], below_drewN ((Below.refl _ _).alloc (Nat.le_refl _) _) _⟩

/-- The parameters of Sum256. -/
abbrev prm256 : Value := .agg #[.int .i64 64, .int .i64 64, .int .u64 7, .int .u64 18, .int .u64 3, .int .u64 17, .int .u64 19, .int .u64 10, .int .u64 6, .int .u64 11, .int .u64 25, .int .u64 2, .int .u64 13, .int .u64 22]

theorem parameters256_any (w : World) : Calls Tryd.prog 47 #[] w fun e w' => e = .returned prm256 ∧ Below w.heap.size w w' := by
  go_enter Tryd.func47, Tryd.ntmps47
  go_wp2
  exact bodyPost_ret (v := prm256) (by simp [results, Tryd.results47, go_sem]) rfl ⟨rfl, by simpa using (Below.refl _ _).alloc (Nat.le_refl _) _⟩

theorem wordBytes256 (w : World) : Calls Tryd.prog 80 #[prm256] w fun e w' => e = .returned (.int .i64 4) ∧ Below w.heap.size w w' := by
  go_enter Tryd.func80, Tryd.ntmps80
  go_wp2
  go_ret
  exact ⟨rfl, (Below.refl _ _).alloc (Nat.le_refl _) _⟩
theorem lengthBytes256 (w : World) : Calls Tryd.prog 88 #[prm256] w fun e w' => e = .returned (.int .i64 8) ∧ Below w.heap.size w w' := by
  go_enter Tryd.func88, Tryd.ntmps88
  go_wp2
  go_ret
  exact ⟨rfl, (Below.refl _ _).alloc (Nat.le_refl _) _⟩
theorem wordBits256 (w : World) : Calls Tryd.prog 81 #[prm256] w fun e w' => e = .returned (.int .u64 32) ∧ Below w.heap.size w w' := by
  go_enter Tryd.func81, Tryd.ntmps81
  go_wp2
  go_ret
  exact ⟨rfl, (Below.refl _ _).alloc (Nat.le_refl _) _⟩
theorem unused256 (w : World) : Calls Tryd.prog 76 #[prm256] w fun e w' => e = .returned (.int .u64 32) ∧ Below w.heap.size w w' := by
  go_enter Tryd.func76, Tryd.ntmps76
  go_wp2_with (go_at_call 81; refine (wordBits256 _).mono ?_; rintro e w' ⟨rfl, hb⟩)
  go_ret
  exact ⟨rfl, ((Below.refl _ _).alloc (Nat.le_refl _) _).trans (hb.mono (by simp))⟩
end

section
open Go.RowKit Go.Sort
set_option maxRecDepth 100000
set_option linter.unusedSimpArgs false
set_option linter.unusedVariables false

def ld32 (l : List UInt8) : Int := l.foldl (fun v c => bits .or .u32 (v * 256 % 4294967296) ((c.toNat : Int) % 4294967296)) 0
theorem ld32_snoc (s : ByteArray) (k : Nat) (h : k < s.size) : ld32 (s.data.toList.take (k + 1)) = bits .or .u32 (ld32 (s.data.toList.take k) * 256 % 4294967296) ((s[k].toNat : Int) % 4294967296) := by
  unfold ld32
  rw [List.take_succ_eq_append_getElem (by simpa using h), List.foldl_append]
  rfl

theorem load32_any (s : ByteArray) (w : World) (hs : s.size ≤ maxLen) :
    Calls Tryd.prog 91 #[.string s] w fun e w' => e = .returned (.int .u32 (ld32 s.data.toList)) ∧ w = w' := by
  unfold maxLen at hs
  go_enter Tryd.func91, Tryd.ntmps91
  go_wp2
  go_loop [3, 7] (fun v i => ∃ k : Nat, k ≤ s.size ∧ i = .int .i64 k ∧ v = .int .u32 (ld32 (s.data.toList.take k))) (fun _ i => s.size - (intOf i).toNat)
  case atStart => exact ⟨0, Nat.zero_le _, rfl, rfl⟩
  case round =>
    obtain ⟨k, hk, rfl, rfl⟩ := hrel
    by_cases hlt : k < s.size
    · have HS := Lib.hid (ld32_snoc s k hlt)
      generalize ld32 (s.data.toList.take k) = x at *
      go_wp2
      go_round
      case rel => exact ⟨k + 1, by omega, by go_num, by rw [HS.out]⟩
      case measure => simp [intOf]; omega
    · go_wp2
      go_ret
      exact ⟨by rw [List.take_of_length_le (by simp; omega)]; rfl, rfl⟩
end

section
open Go.RowKit Go.Sort
set_option maxRecDepth 100000
set_option linter.unusedSimpArgs false
set_option linter.unusedVariables false

structure W8 where
  a : Int
  b : Int
  c : Int
  d : Int
  e : Int
  f : Int
  g : Int
  h : Int
def W8.at (s : W8) : Nat → Int
  | 0 => s.a | 1 => s.b | 2 => s.c | 3 => s.d | 4 => s.e | 5 => s.f | 6 => s.g | _ => s.h

def ext32 (l : List Int) (t : Nat) : Int :=
  (l.getD (t - 16) 0 + l.getD (t - 7) 0 + shf3_32 (l.getD (t - 15) 0) 7 18 3 + shf3_32 (l.getD (t - 2) 0) 17 19 10) % 4294967296
def sch32 (ws : List Int) : Nat → List Int
  | 0 => ws
  | n + 1 => sch32 ws n ++ [ext32 (sch32 ws n) (16 + n)]
def wds32 (b : List UInt8) : List Int := (List.range 16).map fun t => ld32 ((b.drop (t * 4)).take 4)
theorem sch32_length (ws : List Int) (h : ws.length = 16) (n : Nat) : (sch32 ws n).length = 16 + n := by
  induction n with
  | zero => simpa [sch32] using h
  | succ n ih => simp [sch32, ih]; omega
theorem wds32_length (b : List UInt8) : (wds32 b).length = 16 := by simp [wds32]
theorem wds32_snoc (b : List UInt8) (k : Nat) (h : k < 16) : (wds32 b).take (k + 1) = (wds32 b).take k ++ [ld32 ((b.drop (k * 4)).take 4)] := by
  rw [List.take_succ_eq_append_getElem (by rw [wds32_length]; exact h)]
  simp [wds32]

/-- So many words, and noughts behind them up to eighty: the cells of the array. -/
def pad80_32 (l : List Int) : Array Value := ((l ++ List.replicate (80 - l.length) 0).map (Value.int .u32)).toArray
theorem pad80_32_size (l : List Int) (h : l.length ≤ 80) : (pad80_32 l).size = 80 := by simp [pad80_32]; omega
theorem pad80_32_get (l : List Int) (j : Nat) (h : j < l.length) : (pad80_32 l)[j]? = some (.int .u32 (l.getD j 0)) := by
  simp [pad80_32, List.getElem?_append, h]
theorem pad80_32_get0 (l : List Int) (j : Nat) (h : l.length ≤ j) (h' : j < 80) : (pad80_32 l)[j]? = some (.int .u32 0) := by
  have : j - l.length < 80 - l.length := by omega
  simp [pad80_32, List.getElem?_append, Nat.not_lt.2 h, this]
theorem pad80_32_set (l : List Int) (x : Int) (h : l.length < 80) : (pad80_32 l).setIfInBounds l.length (.int .u32 x) = pad80_32 (l ++ [x]) := by
  have e : 80 - l.length = (80 - (l.length + 1)) + 1 := by omega
  simp only [pad80_32, List.length_append, List.length_cons, List.length_nil, Nat.zero_add]
  rw [e, List.replicate_succ]
  simp [List.setIfInBounds_toArray, List.set_append]
theorem pad80_32_one (l : List Int) (h : l.length ≤ 80) : (pad80_32 l).all (·.oneCell') = true := by
  simp [pad80_32, Value.oneCell']

/-- One round: the eight words a to h, the round's constant and word. -/
def rnd32 (s : W8) (k w : Int) : W8 :=
  let x := s.h + rot3_32 s.e 6 11 25 + bits .xor .u32 (bits .and .u32 s.e s.f) (bits .and .u32 (bits .xor .u32 IntKind.u32.max s.e) s.g) + k + w
  let y := rot3_32 s.a 2 13 22 + bits .xor .u32 (bits .xor .u32 (bits .and .u32 s.a s.b) (bits .and .u32 s.a s.c)) (bits .and .u32 s.b s.c)
  ⟨(x + y) % 4294967296, s.a, s.b, s.c, (s.d + x) % 4294967296, s.e, s.f, s.g⟩
def rnds32 (K W : Nat → Int) (s : W8) : Nat → W8
  | 0 => s
  | n + 1 => rnd32 (rnds32 K W s n) (K n) (W n)
def add32 (s t : W8) : W8 := ⟨(s.a + t.a) % 4294967296, (s.b + t.b) % 4294967296, (s.c + t.c) % 4294967296, (s.d + t.d) % 4294967296, (s.e + t.e) % 4294967296, (s.f + t.f) % 4294967296, (s.g + t.g) % 4294967296, (s.h + t.h) % 4294967296⟩
/-- The cells of eight words. -/
abbrev W8.cells32 (s : W8) : Array Value := #[.int .u32 s.a, .int .u32 s.b, .int .u32 s.c, .int .u32 s.d, .int .u32 s.e, .int .u32 s.f, .int .u32 s.g, .int .u32 s.h]
/-- The state behind k of the eight additions. -/
def mix32 (s t : W8) (k : Nat) : Array Value := ((List.range 8).map fun j => Value.int .u32 (if j < k then (s.at j + t.at j) % 4294967296 else s.at j)).toArray
theorem lt8 {k : Nat} (h : k < 8) : k = 0 ∨ k = 1 ∨ k = 2 ∨ k = 3 ∨ k = 4 ∨ k = 5 ∨ k = 6 ∨ k = 7 := by omega
theorem mix32_set (s t : W8) (k : Nat) (h : k < 8) : (mix32 s t k).setIfInBounds k (.int .u32 ((s.at k + t.at k) % 4294967296)) = mix32 s t (k + 1) := by
  rcases lt8 h with rfl | rfl | rfl | rfl | rfl | rfl | rfl | rfl <;> rfl
theorem mix32_get (s t : W8) (k : Nat) (h : k < 8) : (mix32 s t k)[k]? = some (.int .u32 (s.at k)) := by
  rcases lt8 h with rfl | rfl | rfl | rfl | rfl | rfl | rfl | rfl <;> rfl
theorem mix32_zero (s t : W8) : mix32 s t 0 = s.cells32 := rfl
theorem mix32_eight (s t : W8) : mix32 s t 8 = (add32 s t).cells32 := rfl
def comp32 (K : Nat → Int) (s : W8) (b : List UInt8) : W8 := add32 s (rnds32 K (fun t => (sch32 (wds32 b) 48).getD t 0) s 64)
end

section
open Go.RowKit Go.Sort
set_option maxRecDepth 100000
set_option linter.unusedSimpArgs false
set_option linter.unusedVariables false

theorem info80_32 : (Tryd.prog.info? 97).map (fun i => (i.zero, i.size)) = some (some (.agg (pad80_32 [])), 80) := by kernel_rfl

/-- The parameters lie in block b. -/
def PrmAt (W : World) (b : Nat) : Prop := W.heap[b]? = some (.cells #[.int .i64 64, .int .i64 64, .int .u64 7, .int .u64 18, .int .u64 3, .int .u64 17, .int .u64 19, .int .u64 10, .int .u64 6, .int .u64 11, .int .u64 25, .int .u64 2, .int .u64 13, .int .u64 22] 49 (0, 0))
theorem PrmAt.cells {W : World} {b : Nat} (h : PrmAt W b) :
    W.cell? ⟨b, 0, none⟩ = some (.int .i64 64) ∧ W.cell? ⟨b, 1, none⟩ = some (.int .i64 64) ∧
    W.cell? ⟨b, 2, none⟩ = some (.int .u64 7) ∧ W.cell? ⟨b, 3, none⟩ = some (.int .u64 18) ∧ W.cell? ⟨b, 4, none⟩ = some (.int .u64 3) ∧
    W.cell? ⟨b, 5, none⟩ = some (.int .u64 17) ∧ W.cell? ⟨b, 6, none⟩ = some (.int .u64 19) ∧ W.cell? ⟨b, 7, none⟩ = some (.int .u64 10) ∧
    W.cell? ⟨b, 8, none⟩ = some (.int .u64 6) ∧ W.cell? ⟨b, 9, none⟩ = some (.int .u64 11) ∧ W.cell? ⟨b, 10, none⟩ = some (.int .u64 25) ∧
    W.cell? ⟨b, 11, none⟩ = some (.int .u64 2) ∧ W.cell? ⟨b, 12, none⟩ = some (.int .u64 13) ∧ W.cell? ⟨b, 13, none⟩ = some (.int .u64 22) := by
  refine ⟨?_, ?_, ?_, ?_, ?_, ?_, ?_, ?_, ?_, ?_, ?_, ?_, ?_, ?_⟩ <;> (rw [cell_of_row W b _ _ _ _ h]; rfl)
theorem PrmAt.below {W W' : World} {b B : Nat} (h : PrmAt W b) (hb : Below B W W') (hlt : b < B) : PrmAt W' b := (hb.block b hlt).trans h
set_option maxHeartbeats 1000000 in
theorem schedule32_any (s : ByteArray) (w : World) (hs : 64 ≤ s.size) (hs' : s.size ≤ 64) :
    Calls Tryd.prog 85 #[prm256, .string s] w fun e w' => e = .returned (.agg (pad80_32 (sch32 (wds32 s.data.toList) 48))) ∧ Below w.heap.size w w' := by
  obtain ⟨hz, hi⟩ := zero_of_info info80_32
  go_enter Tryd.func85, Tryd.ntmps85
  go_wp2_with fail
  clear hz
  have hP := blk_old (o := .cells (pad80_32 []) 97) (blk_old (o := .cells (pad80_32 []) 97) (blk_new w (.cells #[.int .i64 64, .int .i64 64, .int .u64 7, .int .u64 18, .int .u64 3, .int .u64 17, .int .u64 19, .int .u64 10, .int .u64 6, .int .u64 11, .int .u64 25, .int .u64 2, .int .u64 13, .int .u64 22] 49)))
  have hR := blk_old (o := .cells (pad80_32 []) 97) (blk_new2 w (.cells #[.int .i64 64, .int .i64 64, .int .u64 7, .int .u64 18, .int .u64 3, .int .u64 17, .int .u64 19, .int .u64 10, .int .u64 6, .int .u64 11, .int .u64 25, .int .u64 2, .int .u64 13, .int .u64 22] 49) (.cells (pad80_32 []) 97))
  have hA := blk_new3 w (.cells #[.int .i64 64, .int .i64 64, .int .u64 7, .int .u64 18, .int .u64 3, .int .u64 17, .int .u64 19, .int .u64 10, .int .u64 6, .int .u64 11, .int .u64 25, .int .u64 2, .int .u64 13, .int .u64 22] 49) (.cells (pad80_32 []) 97) (.cells (pad80_32 []) 97)
  have hB := below_new3 w (.cells #[.int .i64 64, .int .i64 64, .int .u64 7, .int .u64 18, .int .u64 3, .int .u64 17, .int .u64 19, .int .u64 10, .int .u64 6, .int .u64 11, .int .u64 25, .int .u64 2, .int .u64 13, .int .u64 22] 49) (.cells (pad80_32 []) 97) (.cells (pad80_32 []) 97)
  generalize (((w.alloc _).alloc _).alloc _) = W at *
  replace hP : PrmAt W w.heap.size := hP
  generalize hBB : w.heap.size = B at *
  have HBB := Lib.hid hBB
  clear hBB
  obtain ⟨c0, c1, c2, c3, c4, c5, c6, c7, c8, c9, c10, c11, c12, c13⟩ := hP.cells
  have k0 := cell_regrown c0; have k1 := cell_regrown c1; have k2 := cell_regrown c2; have k3 := cell_regrown c3; have k4 := cell_regrown c4
  have k5 := cell_regrown c5; have k6 := cell_regrown c6; have k7 := cell_regrown c7; have k8 := cell_regrown c8; have k9 := cell_regrown c9
  have k10 := cell_regrown c10; have k11 := cell_regrown c11; have k12 := cell_regrown c12; have k13 := cell_regrown c13
  have HR := Lib.hid hR; have HA := Lib.hid hA; clear hR hA
  refine wp_region_reads (by kernel_rfl) (by kernel_rfl) ?_
  repeat (quiet_step (first | (go_at_call 80; exact Calls.regrown_of (wordBytes256 _)) | (go_at_call 81; exact Calls.regrown_of (wordBits256 _))))
  refine wpQuiet_nil ?_
  intro W2 hb2
  clear k0 k1 k2 k3 k4 k5 k6 k7 k8 k9 k10 k11 k12 k13 c0 c1 c2 c3 c4 c5 c6 c7 c8 c9 c10 c11 c12 c13
  have hp2 := hP.below hb2 (blk_lt hP)
  have hr2 := blk_below hb2 (blk_lt HR.out) HR.out
  have ha2 := blk_below hb2 (blk_lt HA.out) HA.out
  have hB2 : Below B w W2 := hB.trans (hb2.mono (Nat.le_of_lt (blk_lt hP)))
  clear hP HR HA hB hb2
  go_wp2_with fail
  go_loopw [14] (fun i wr => ∃ k : Nat, k ≤ 16 ∧ i = .int .i64 k ∧ PrmAt wr B ∧ wr.heap[B + 1]? = some (.cells (pad80_32 []) 97) ∧ wr.heap[B + 1 + 1]? = some (.cells (pad80_32 ((wds32 s.data.toList).take k)) 97) ∧ Below B w wr) (fun i _ => 16 - (intOf i).toNat)
  case atStart => exact ⟨0, Nat.zero_le _, rfl, hp2, hr2, ha2, hB2⟩
  case round =>
    obtain ⟨k, hk, rfl, hp, hr, ha, hb⟩ := hrel
    clear hp2 hr2 ha2 hB2
    have hl : ((wds32 s.data.toList).take k).length = k := by simp [wds32_length]; omega
    by_cases hlt : k < 16
    · have hcell : wr.cell? ⟨B + 1 + 1, k, none⟩ = some (.int .u32 0) := by rw [cell_of_row wr _ _ _ _ _ ha]; exact pad80_32_get0 _ _ (by omega) (by omega)
      have hfz : wr.frozen? ⟨B + 1 + 1, k, none⟩ = false := frozen_of_row wr _ _ _ _ ha
      have HP := Lib.hid hp; have HR := Lib.hid hr; have HA := Lib.hid ha; have HL := Lib.hid hl
      clear hp hr ha hl
      go_wp2_with fail
      refine (load32_any _ _ (by simp [maxLen]; omega)).mono ?_
      rintro e w' ⟨rfl, rfl⟩
      have HV : Hid ((k + 1) * 4 - k * 4 = 4) := Lib.hid (by omega)
      go_wp2_with fail
      go_roundw
      case rel =>
        refine ⟨k + 1, by omega, by go_num, ?_, ?_, ?_, hb.setCell (by simp; omega) _⟩
        · exact (heap_setCell_other _ _ _ _ (by simp; omega)).trans HP.out
        · exact (heap_setCell_other _ _ _ _ (by simp)).trans HR.out
        · rw [wds32_snoc _ _ hlt, HV.out]
          have e := pad80_32_set ((wds32 s.data.toList).take k) (ld32 ((s.data.toList.drop (k * 4)).take 4)) (by rw [HL.out]; omega)
          rw [HL.out] at e
          rw [← e]
          exact heap_setCell_same _ _ _ _ _ _ HA.out
      case measure => simp [intOf]; omega
    · have hd : decide ((k : Int) < 16) = false := by simp; omega
      have hk16 : (wds32 s.data.toList).take k = sch32 (wds32 s.data.toList) 0 := by rw [List.take_of_length_le (by rw [wds32_length]; omega)]; rfl
      rw [hk16] at ha
      clear hk16 hl
      have HP := Lib.hid hp; have HR := Lib.hid hr; have HA := Lib.hid ha
      clear hp hr ha
      have hc1 : wr.cell? ⟨B, 1, none⟩ = some (.int .i64 64) := HP.out.cells.2.1
      go_wp2_with fail
      clear hc1
      go_loopw [9] (fun i wr => ∃ t : Nat, 16 ≤ t ∧ t ≤ 64 ∧ i = .int .i64 t ∧ PrmAt wr B ∧ wr.heap[B + 1]? = some (.cells (pad80_32 []) 97) ∧ wr.heap[B + 1 + 1]? = some (.cells (pad80_32 (sch32 (wds32 s.data.toList) (t - 16))) 97) ∧ Below B w wr) (fun i _ => 64 - (intOf i).toNat)
      case atStart => exact ⟨16, Nat.le_refl _, by omega, rfl, HP.out, HR.out, HA.out, hb⟩
      case round =>
        clear HP HR HA hb hd
        obtain ⟨t, ht, ht', rfl, hp, hr, ha, hb⟩ := hrel
        obtain ⟨c0, c1, c2, c3, c4, c5, c6, c7, c8, c9, c10, c11, c12, c13⟩ := hp.cells
        clear c0 c8 c9 c10 c11 c12 c13
        have hl : (sch32 (wds32 s.data.toList) (t - 16)).length = t := by rw [sch32_length _ (wds32_length _)]; omega
        have hz1 := blk_lt ha
        by_cases hlt : t < 64
        · have hd : decide ((t : Int) < 64) = true := by simp; omega
          have hcell : ∀ j, j < t → wr.cell? ⟨B + 1 + 1, j, none⟩ = some (.int .u32 ((sch32 (wds32 s.data.toList) (t - 16)).getD j 0)) := fun j hj => by rw [cell_of_row wr _ _ _ _ _ ha]; exact pad80_32_get _ _ (by omega)
          have d16 := hcell (t - 16) (by omega); have d7 := hcell (t - 7) (by omega); have d15 := hcell (t - 15) (by omega); have d2 := hcell (t - 2) (by omega)
          have dt : wr.cell? ⟨B + 1 + 1, t, none⟩ = some (.int .u32 0) := by rw [cell_of_row wr _ _ _ _ _ ha]; exact pad80_32_get0 _ _ (by omega) (by omega)
          have hfz : wr.frozen? ⟨B + 1 + 1, t, none⟩ = false := frozen_of_row wr _ _ _ _ ha
          have he : ext32 (sch32 (wds32 s.data.toList) (t - 16)) t = ((sch32 (wds32 s.data.toList) (t - 16)).getD (t - 16) 0 + (sch32 (wds32 s.data.toList) (t - 16)).getD (t - 7) 0 + shf3_32 ((sch32 (wds32 s.data.toList) (t - 16)).getD (t - 15) 0) 7 18 3 + shf3_32 ((sch32 (wds32 s.data.toList) (t - 16)).getD (t - 2) 0) 17 19 10) % 4294967296 := rfl
          generalize (sch32 (wds32 s.data.toList) (t - 16)).getD (t - 16) 0 = x16 at *
          generalize (sch32 (wds32 s.data.toList) (t - 16)).getD (t - 7) 0 = x7 at *
          generalize (sch32 (wds32 s.data.toList) (t - 16)).getD (t - 15) 0 = x15 at *
          generalize (sch32 (wds32 s.data.toList) (t - 16)).getD (t - 2) 0 = x2 at *
          have HP := Lib.hid hp; have HR := Lib.hid hr; have HA := Lib.hid ha; have HL := Lib.hid hl; have HE := Lib.hid he
          clear hp hr ha hl hcell he
          go_wp2_with fail
          have k16 := cell_regrown d16; have k7 := cell_regrown d7; have k15 := cell_regrown d15; have k2 := cell_regrown d2
          have m2 := cell_regrown c2; have m3 := cell_regrown c3; have m4 := cell_regrown c4; have m5 := cell_regrown c5; have m6 := cell_regrown c6; have m7 := cell_regrown c7
          refine wp_region_reads_tail 29 (by kernel_rfl) (by kernel_rfl) ?_
          simp only [List.take_succ_cons, List.take_zero, List.drop_succ_cons, List.drop_zero]
          repeat (first | go_big_quiet_step ((go_at_call 92; exact Calls.regrown_of (shifted32_any _ _ _ _ _ (by omega) (by omega) (by omega) (by omega) (by omega) (by omega)))) | quiet_step ((go_at_call 92; exact Calls.regrown_of (shifted32_any _ _ _ _ _ (by omega) (by omega) (by omega) (by omega) (by omega) (by omega)))))
          refine wpQuiet_nil ?_
          intro W3 hb3
          clear k16 k7 k15 k2 m2 m3 m4 m5 m6 m7
          have dt3 : W3.cell? ⟨B + 1 + 1, t, none⟩ = some (.int .u32 0) := (hb3.cell (by simpa using hz1)).trans dt
          have hfz3 : W3.frozen? ⟨B + 1 + 1, t, none⟩ = false := (hb3.frozen (by simpa using hz1)).trans hfz
          have hsz3 := hb3.size
          have hb4 : Below B w W3 := hb.trans (hb3.mono (by omega))
          have HP3 := Lib.hid (HP.out.below hb3 (by omega)); have HR3 := Lib.hid (blk_below hb3 (by omega) HR.out); have HA3 := Lib.hid (blk_below hb3 hz1 HA.out)
          clear HP HR HA d16 d7 d15 d2 dt hfz hb3 hb c1 c2 c3 c4 c5 c6 c7
          go_wp2_with fail
          go_roundw
          case rel =>
            refine ⟨t + 1, by omega, by omega, by go_num, ?_, ?_, ?_, hb4.setCell (by simp; omega) _⟩
            · exact (heap_setCell_other _ _ _ _ (by simp; omega)).trans HP3.out
            · exact (heap_setCell_other _ _ _ _ (by simp)).trans HR3.out
            · have e := pad80_32_set (sch32 (wds32 s.data.toList) (t - 16)) (ext32 (sch32 (wds32 s.data.toList) (t - 16)) t) (by rw [HL.out]; omega)
              rw [HL.out] at e
              have e2 : sch32 (wds32 s.data.toList) (t + 1 - 16) = sch32 (wds32 s.data.toList) (t - 16) ++ [ext32 (sch32 (wds32 s.data.toList) (t - 16)) t] := by
                rw [show t + 1 - 16 = (t - 16) + 1 by omega, sch32, show 16 + (t - 16) = t by omega]
              rw [e2, ← e]
              refine (heap_setCell_same _ _ _ _ _ _ HA3.out).trans ?_
              rw [HE.out]
          case measure => simp [intOf]; omega
        · have hd : decide ((t : Int) < 64) = false := by simp; omega
          obtain rfl : t = 64 := by omega
          have HP := Lib.hid hp; have HR := Lib.hid hr; have HA := Lib.hid ha
          have hlen : (sch32 (wds32 s.data.toList) (64 - 16)).length ≤ 80 := by rw [sch32_length _ (wds32_length _)]; omega
          have HI := Lib.hid (show (Tryd.prog.info? 97).map (·.size) = some (pad80_32 (sch32 (wds32 s.data.toList) (64 - 16))).size from by rw [pad80_32_size _ hlen]; exact hi)
          have HO := Lib.hid (show (pad80_32 []).size = (pad80_32 (sch32 (wds32 s.data.toList) (64 - 16))).size from by rw [pad80_32_size _ hlen, pad80_32_size _ (by simp)])
          have H1 := Lib.hid (pad80_32_one _ hlen)
          clear hp hr ha hl c2 c3 c4 c5 c6 c7 hi hlen
          go_wp2_with (first
            | (with_reducible refine wpList_load_row rfl 97 _ rfl (B + 1 + 1) rfl 97 _ (0, 0) (.array 80 45) HA.out Tryd.underlying97 rfl HI.out ?_)
            | (with_reducible refine wpList_store_row rfl 97 _ _ rfl (B + 1) (pad80_32 (sch32 (wds32 s.data.toList) (64 - 16))) rfl rfl 97 _ HR.out HI.out HO.out H1.out ?_))
          exact bodyPost_ret (v := .agg (pad80_32 (sch32 (wds32 s.data.toList) (64 - 16)))) (results_cell_row (by rfl) _ _ (B + 1) 97 _ (0, 0) (.array 80 45) rfl (setRow_heap _ _ _ _ _ _ HR.out) Tryd.underlying97 rfl HI.out) rfl ⟨rfl, by rw [HBB.out]; exact below_setRow hb (by omega) _⟩
end

section
open Go.RowKit Go.Sort
set_option maxRecDepth 100000
set_option linter.unusedSimpArgs false
set_option linter.unusedVariables false

/-- The variable holds the table. -/
def TabK (w : World) (K : Nat → Int) : Prop := ∀ t, t < 80 → w.cell? ⟨1, t, none⟩ = some (.int .u64 (K t))
theorem TabK.lt {w : World} {K : Nat → Int} (h : TabK w K) : 1 < w.heap.size := block_lt_of_cell (h 0 (by omega))
theorem TabK.below {w w' : World} {K : Nat → Int} {B : Nat} (h : TabK w K) (hb : Below B w w') (hB : 1 < B) : TabK w' K := fun t ht => (hb.cell hB).trans (h t ht)

theorem info8_32 : (Tryd.prog.info? 75).map (fun i => (i.zero, i.size)) = some (some (.agg #[.int .u32 0, .int .u32 0, .int .u32 0, .int .u32 0, .int .u32 0, .int .u32 0, .int .u32 0, .int .u32 0]), 8) := by kernel_rfl
theorem index8_32 (s : W8) (w : World) (k : Nat) (h : k < 8) : (Instr.index 75 (.agg s.cells32) (.int .i64 (k : Int))).run Tryd.prog w = .ok (.int .u32 (s.at k)) w := by
  rcases lt8 h with rfl | rfl | rfl | rfl | rfl | rfl | rfl | rfl <;> kernel_rfl

/-- What lies where while compress runs: the parameters, the state, the result, the words of the schedule, the table. -/
structure CInv32 (K : Nat → Int) (w W : World) (B G : Nat) (S ws : Array Value) : Prop where
  prm : PrmAt W B
  row : W.heap[B + 1]? = some (.cells S 75)
  res : W.heap[B + 1 + 1]? = some (.cells #[.int .u32 0, .int .u32 0, .int .u32 0, .int .u32 0, .int .u32 0, .int .u32 0, .int .u32 0, .int .u32 0] 75)
  wds : W.heap[G]? = some (.cells ws 97)
  tab : TabK W K
  low : 1 < B
  bel : Below B w W
  lt : B + 1 + 1 < G
theorem CInv32.step {K : Nat → Int} {w W W' : World} {B G : Nat} {S ws : Array Value} (h : CInv32 K w W B G S ws) (hb : Below W.heap.size W W') : CInv32 K w W' B G S ws :=
  ⟨h.prm.below hb (blk_lt h.prm), blk_below hb (blk_lt h.row) h.row, blk_below hb (blk_lt h.res) h.res, blk_below hb (blk_lt h.wds) h.wds, h.tab.below hb h.tab.lt, h.low,
   h.bel.trans (hb.mono (Nat.le_of_lt (blk_lt h.prm))), h.lt⟩
theorem CInv32.state {K : Nat → Int} {w W : World} {B G : Nat} {st : W8} {ws : Array Value} (h : CInv32 K w W B G st.cells32 ws) :
    W.cell? ⟨B + 1, 0, none⟩ = some (.int .u32 st.a) ∧ W.cell? ⟨B + 1, 1, none⟩ = some (.int .u32 st.b) ∧ W.cell? ⟨B + 1, 2, none⟩ = some (.int .u32 st.c) ∧ W.cell? ⟨B + 1, 3, none⟩ = some (.int .u32 st.d) ∧
    W.cell? ⟨B + 1, 4, none⟩ = some (.int .u32 st.e) ∧ W.cell? ⟨B + 1, 5, none⟩ = some (.int .u32 st.f) ∧ W.cell? ⟨B + 1, 6, none⟩ = some (.int .u32 st.g) ∧ W.cell? ⟨B + 1, 7, none⟩ = some (.int .u32 st.h) := by
  refine ⟨?_, ?_, ?_, ?_, ?_, ?_, ?_, ?_⟩ <;> (rw [cell_of_row W _ _ _ _ _ h.row]; rfl)

set_option maxHeartbeats 1000000 in
set_option maxRecDepth 100000 in
theorem compress32_any (K : Nat → Int) (st : W8) (s : ByteArray) (w : World) (hs : 64 ≤ s.size) (hs' : s.size ≤ 64) (hK : TabK w K) :
    Calls Tryd.prog 77 #[prm256, .agg st.cells32, .string s] w fun e w' => e = .returned (.agg (comp32 (fun t => K t / 4294967296) st s.data.toList).cells32) ∧ Below w.heap.size w w' := by
  have Hz := Lib.hid (zero_of_info info80_32)
  go_enter Tryd.func77, Tryd.ntmps77
  go_wp2_with fail
  have hP := blk_old (o := .cells #[.int .u32 0, .int .u32 0, .int .u32 0, .int .u32 0, .int .u32 0, .int .u32 0, .int .u32 0, .int .u32 0] 75) (blk_old (o := .cells st.cells32 75) (blk_new w (.cells #[.int .i64 64, .int .i64 64, .int .u64 7, .int .u64 18, .int .u64 3, .int .u64 17, .int .u64 19, .int .u64 10, .int .u64 6, .int .u64 11, .int .u64 25, .int .u64 2, .int .u64 13, .int .u64 22] 49)))
  have hR := blk_old (o := .cells #[.int .u32 0, .int .u32 0, .int .u32 0, .int .u32 0, .int .u32 0, .int .u32 0, .int .u32 0, .int .u32 0] 75) (blk_new2 w (.cells #[.int .i64 64, .int .i64 64, .int .u64 7, .int .u64 18, .int .u64 3, .int .u64 17, .int .u64 19, .int .u64 10, .int .u64 6, .int .u64 11, .int .u64 25, .int .u64 2, .int .u64 13, .int .u64 22] 49) (.cells st.cells32 75))
  have hA := blk_new3 w (.cells #[.int .i64 64, .int .i64 64, .int .u64 7, .int .u64 18, .int .u64 3, .int .u64 17, .int .u64 19, .int .u64 10, .int .u64 6, .int .u64 11, .int .u64 25, .int .u64 2, .int .u64 13, .int .u64 22] 49) (.cells st.cells32 75) (.cells #[.int .u32 0, .int .u32 0, .int .u32 0, .int .u32 0, .int .u32 0, .int .u32 0, .int .u32 0, .int .u32 0] 75)
  have hB := below_new3 w (.cells #[.int .i64 64, .int .i64 64, .int .u64 7, .int .u64 18, .int .u64 3, .int .u64 17, .int .u64 19, .int .u64 10, .int .u64 6, .int .u64 11, .int .u64 25, .int .u64 2, .int .u64 13, .int .u64 22] 49) (.cells st.cells32 75) (.cells #[.int .u32 0, .int .u32 0, .int .u32 0, .int .u32 0, .int .u32 0, .int .u32 0, .int .u32 0, .int .u32 0] 75)
  generalize (((w.alloc _).alloc _).alloc _) = W at *
  have hlow := hK.lt
  have hK1 := hK.below hB hlow
  generalize hBB : w.heap.size = B at *
  have HBB := Lib.hid hBB
  clear hBB hK
  refine (schedule32_any s _ hs hs').mono ?_
  rintro e w1 ⟨rfl, hb1⟩
  have hlen : (sch32 (wds32 s.data.toList) 48).length = 64 := by rw [sch32_length _ (wds32_length _)]
  have HC := Lib.hid (show comp32 (fun t => K t / 4294967296) st s.data.toList = add32 st (rnds32 (fun t => K t / 4294967296) (fun t => (sch32 (wds32 s.data.toList) 48).getD t 0) st 64) from rfl)
  generalize hOut : comp32 (fun t => K t / 4294967296) st s.data.toList = out at *
  have HOut := Lib.hid hOut
  clear hOut
  generalize sch32 (wds32 s.data.toList) 48 = ws at *
  have hsz := pad80_32_size ws (by omega)
  have hi := Hz.out.2
  have HI := Lib.hid (show (Tryd.prog.info? 97).map (·.size) = some (pad80_32 ws).size from by rw [hsz]; exact hi)
  have HO := Lib.hid (show (pad80_32 []).size = (pad80_32 ws).size from by rw [hsz, pad80_32_size _ (by simp)])
  have H1 := Lib.hid (pad80_32_one ws (by omega))
  have hz := Hz.out.1
  have HL := Lib.hid hlen
  clear hsz hi hlen
  have hg1 := blk_below hb1 (blk_lt hA) hA
  have hinv : CInv32 K w ((w1.alloc (.cells (pad80_32 []) 97)).setRow w1.heap.size (pad80_32 ws)) B w1.heap.size st.cells32 (pad80_32 ws) := by
    have l1 := blk_lt hg1
    have ne : ∀ k, k < B + 1 + 1 + 1 → k ≠ w1.heap.size := fun k hk => by omega
    refine ⟨?_, ?_, ?_, ?_, ?_, by omega, ?_, by omega⟩
    · exact (setRow_other _ _ _ _ (ne _ (by omega))).trans (blk_old (blk_below hb1 (blk_lt hP) hP))
    · exact (setRow_other _ _ _ _ (ne _ (by omega))).trans (blk_old (blk_below hb1 (blk_lt hR) hR))
    · exact (setRow_other _ _ _ _ (ne _ (by omega))).trans (blk_old hg1)
    · exact setRow_heap _ _ _ _ _ _ (blk_new w1 _)
    · have h1 := hK1.below hb1 hK1.lt
      exact fun t ht => (cell_setRow_other _ _ _ _ (by simp; omega)).trans ((below_new w1 _).cell (by simp; omega) |>.trans (h1 t ht))
    · exact below_setRow ((hB.trans (hb1.mono (Nat.le_of_lt (blk_lt hP)))).alloc (by omega) _) (by omega) _
  have HG := Lib.hid (blk_new w1 (.cells (pad80_32 []) 97))
  clear hP hR hA hB hb1 hK1 hg1
  go_wp2_with (with_reducible refine wpList_store_row rfl 97 _ _ rfl w1.heap.size (pad80_32 ws) rfl rfl 97 _ HG.out HI.out HO.out H1.out ?_)
  clear Hz HG HI HO H1 hz
  generalize (w1.alloc (.cells (pad80_32 []) 97)).setRow w1.heap.size (pad80_32 ws) = W2 at *
  generalize w1.heap.size = G at *
  simp only [Act.put]
  have HV := Lib.hid hinv
  clear hinv
  -- the bits of a word, and how many are left out
  · obtain ⟨c0, c1, c2, c3, c4, c5, c6, c7, c8, c9, c10, c11, c12, c13⟩ := HV.out.prm.cells
    have k0 := cell_regrown c0; have k1 := cell_regrown c1; have k2 := cell_regrown c2; have k3 := cell_regrown c3; have k4 := cell_regrown c4
    have k5 := cell_regrown c5; have k6 := cell_regrown c6; have k7 := cell_regrown c7; have k8 := cell_regrown c8; have k9 := cell_regrown c9
    have k10 := cell_regrown c10; have k11 := cell_regrown c11; have k12 := cell_regrown c12; have k13 := cell_regrown c13
    refine wp_region_reads (by kernel_rfl) (by kernel_rfl) ?_
    repeat (quiet_step (first | (go_at_call 76; exact Calls.regrown_of (unused256 _)) | (go_at_call 81; exact Calls.regrown_of (wordBits256 _))))
    refine wpQuiet_nil ?_
    intro W3 hb3
    replace HV := Lib.hid (HV.out.step hb3)
    clear k0 k1 k2 k3 k4 k5 k6 k7 k8 k9 k10 k11 k12 k13 c0 c1 c2 c3 c4 c5 c6 c7 c8 c9 c10 c11 c12 c13 hb3
    go_wp2_with fail
    -- the words of the state
    obtain ⟨c0, c1, c2, c3, c4, c5, c6, c7⟩ := HV.out.state
    have k0 := cell_regrown c0; have k1 := cell_regrown c1; have k2 := cell_regrown c2; have k3 := cell_regrown c3
    refine wp_region_reads (by kernel_rfl) (by kernel_rfl) ?_
    repeat (first | go_big_quiet_step (fail) | quiet_step (fail))
    refine wpQuiet_nil ?_
    intro W4 hb4
    replace HV := Lib.hid (HV.out.step hb4)
    clear k0 k1 k2 k3 c0 c1 c2 c3 c4 c5 c6 c7 hb4
    go_wp2_with fail
    obtain ⟨c0, c1, c2, c3, c4, c5, c6, c7⟩ := HV.out.state
    have k4 := cell_regrown c4; have k5 := cell_regrown c5; have k6 := cell_regrown c6; have k7 := cell_regrown c7
    refine wp_region_reads (by kernel_rfl) (by kernel_rfl) ?_
    repeat (first | go_big_quiet_step (fail) | quiet_step (fail))
    refine wpQuiet_nil ?_
    intro W5 hb5
    replace HV := Lib.hid (HV.out.step hb5)
    clear k4 k5 k6 k7 c0 c1 c2 c3 c4 c5 c6 c7 hb5
    have c1 := HV.out.prm.cells.2.1
    go_wp2_with fail
    clear c1
    go_loopw [10, 11, 12, 13, 14, 15, 16, 17, 49] (fun a b c d e f g h i wr => ∃ (t : Nat) (r : W8), t ≤ 64 ∧ i = .int .i64 t ∧ Hid (rnds32 (fun t => K t / 4294967296) (fun t => ws.getD t 0) st t = r) ∧
        a = .int .u32 r.a ∧ b = .int .u32 r.b ∧ c = .int .u32 r.c ∧ d = .int .u32 r.d ∧ e = .int .u32 r.e ∧ f = .int .u32 r.f ∧ g = .int .u32 r.g ∧ h = .int .u32 r.h ∧ CInv32 K w wr B G st.cells32 (pad80_32 ws)) (fun _ _ _ _ _ _ _ _ i _ => 64 - (intOf i).toNat)
    case atStart => exact ⟨0, st, by omega, rfl, Lib.hid rfl, rfl, rfl, rfl, rfl, rfl, rfl, rfl, rfl, HV.out⟩
    case round =>
      clear HV
      obtain ⟨t, ⟨xa, xb, xc, xd, xe, xf, xg, xh⟩, ht, rfl, HR, rfl, rfl, rfl, rfl, rfl, rfl, rfl, rfl, hv⟩ := hrel
      have HV := Lib.hid hv
      clear hv
      by_cases hlt : t < 64
      · have hd : decide ((t : Int) < 64) = true := by simp; omega
        have ck := HV.out.tab t (by omega)
        have cw : wr.cell? ⟨G, t, none⟩ = some (.int .u32 (ws.getD t 0)) := by rw [cell_of_row wr _ _ _ _ _ HV.out.wds]; exact pad80_32_get _ _ (by have := HL.out; omega)
        obtain ⟨c0, c1, c2, c3, c4, c5, c6, c7, c8, c9, c10, c11, c12, c13⟩ := HV.out.prm.cells
        clear c0 c1 c2 c3 c4 c5 c6 c7
        have HS := Lib.hid (show rnds32 (fun t => K t / 4294967296) (fun t => ws.getD t 0) st (t + 1) = rnd32 ⟨xa, xb, xc, xd, xe, xf, xg, xh⟩ (K t / 4294967296) (ws.getD t 0) from by rw [rnds32, HR.out])
        generalize ws.getD t 0 = xw at *
        generalize K t = xk at *
        go_wp2_with fail
        have k8 := cell_regrown c8; have k9 := cell_regrown c9; have k10 := cell_regrown c10; have kw := cell_regrown cw
        refine wp_region_reads (by kernel_rfl) (by kernel_rfl) ?_
        repeat (first | go_big_quiet_step ((go_at_call 86; exact Calls.regrown_of (rotations32_any _ _ _ _ _ (by omega) (by omega) (by omega) (by omega) (by omega) (by omega)))) | quiet_step ((go_at_call 86; exact Calls.regrown_of (rotations32_any _ _ _ _ _ (by omega) (by omega) (by omega) (by omega) (by omega) (by omega)))))
        refine wpQuiet_nil ?_
        intro W6 hb6
        replace HV := Lib.hid (HV.out.step hb6)
        clear ck cw c8 c9 c10 c11 c12 c13 k8 k9 k10 kw hb6
        obtain ⟨c0, c1, c2, c3, c4, c5, c6, c7, c8, c9, c10, c11, c12, c13⟩ := HV.out.prm.cells
        clear c0 c1 c2 c3 c4 c5 c6 c7 c8 c9 c10
        go_wp2_with fail
        refine (rotations32_any _ _ _ _ _ (by omega) (by omega) (by omega) (by omega) (by omega) (by omega)).mono ?_
        rintro e W7 ⟨rfl, hb7⟩
        replace HV := Lib.hid (HV.out.step hb7)
        clear c11 c12 c13 hb7
        go_wp2_with fail
        go_roundw
        case rel => 
          refine ⟨t + 1, rnd32 ⟨xa, xb, xc, xd, xe, xf, xg, xh⟩ (xk / 4294967296) xw, by omega, by go_num, HS, ?_, rfl, rfl, rfl, ?_, rfl, rfl, rfl, HV.out⟩
          · exact congrArg (Value.int .u32) (by simp only [rnd32]; omega)
          · exact congrArg (Value.int .u32) (by simp only [rnd32]; omega)
        case measure => simp [intOf]; omega
      · have hd : decide ((t : Int) < 64) = false := by simp; omega
        obtain rfl : t = 64 := by omega
        go_wp2_with fail
        have HX := Lib.hid (index8_32 ⟨xa, xb, xc, xd, xe, xf, xg, xh⟩)
        go_loopw [119] (fun i wr => ∃ k : Nat, k ≤ 8 ∧ i = .int .i64 k ∧ CInv32 K w wr B G (mix32 st ⟨xa, xb, xc, xd, xe, xf, xg, xh⟩ k) (pad80_32 ws)) (fun i _ => 8 - (intOf i).toNat)
        case atStart => exact ⟨0, by omega, rfl, HV.out⟩
        case round =>
          clear HV hd
          obtain ⟨k, hk, rfl, hv⟩ := hrel
          have HV := Lib.hid hv
          clear hv
          by_cases hk8 : k < 8
          · have hd : decide ((k : Int) < 8) = true := by simp; omega
            have hix : ∀ w, (Instr.index 75 (.agg #[.int .u32 xa, .int .u32 xb, .int .u32 xc, .int .u32 xd, .int .u32 xe, .int .u32 xf, .int .u32 xg, .int .u32 xh]) (.int .i64 (k : Int))).run Tryd.prog w = .ok (.int .u32 (W8.at ⟨xa, xb, xc, xd, xe, xf, xg, xh⟩ k)) w := fun w => HX.out w k hk8
            have cs : wr.cell? ⟨B + 1, k, none⟩ = some (.int .u32 (st.at k)) := by rw [cell_of_row wr _ _ _ _ _ HV.out.row]; exact mix32_get _ _ _ hk8
            have fs : wr.frozen? ⟨B + 1, k, none⟩ = false := frozen_of_row wr _ _ _ _ HV.out.row
            go_wp2_with fail
            go_roundw
            case rel =>
              refine ⟨k + 1, by omega, by go_num, ?_⟩
              have h := HV.out
              have l1 := h.lt
              have l0 := h.low
              refine ⟨?_, ?_, ?_, ?_, ?_, l0, h.bel.setCell (by simp) _, l1⟩
              · exact (heap_setCell_other _ _ _ _ (by simp)).trans h.prm
              · rw [← mix32_set _ _ _ hk8]; exact heap_setCell_same _ _ _ _ _ _ h.row
              · exact (heap_setCell_other _ _ _ _ (by simp)).trans h.res
              · exact (heap_setCell_other _ _ _ _ (by simp; omega)).trans h.wds
              · exact fun t ht => (World.cell?_setCell_far _ _ _ _ (by simp; omega)).trans (h.tab t ht)
            case measure => simp [intOf]; omega
          · have hd : decide ((k : Int) < 8) = false := by simp; omega
            obtain rfl : k = 8 := by omega
            have hrow := HV.out.row
            rw [mix32_eight] at hrow
            have HRow := Lib.hid hrow
            have HRes := Lib.hid HV.out.res
            have HI := Lib.hid (show (Tryd.prog.info? 75).map (·.size) = some out.cells32.size from (zero_of_info info8_32).2)
            have HO8 := Lib.hid (show (#[.int .u32 0, .int .u32 0, .int .u32 0, .int .u32 0, .int .u32 0, .int .u32 0, .int .u32 0, .int .u32 0] : Array Value).size = out.cells32.size from rfl)
            have H18 := Lib.hid (show out.cells32.all (·.oneCell') = true from by simp [Value.oneCell'])
            have HO : Hid (out = add32 st ⟨xa, xb, xc, xd, xe, xf, xg, xh⟩) := Lib.hid (by rw [HC.out, HR.out])
            rw [← HO.out] at HRow
            clear hrow hd
            go_wp2_with (first
              | (with_reducible refine wpList_load_row rfl 75 _ rfl (B + 1) rfl 75 _ (0, 0) (.array 8 45) HRow.out Tryd.underlying75 rfl HI.out ?_)
              | (with_reducible refine wpList_store_row rfl 75 _ _ rfl (B + 1 + 1) out.cells32 rfl rfl 75 _ HRes.out HI.out HO8.out H18.out ?_))
            exact bodyPost_ret (v := .agg out.cells32) (results_cell_row (by rfl) _ _ (B + 1 + 1) 75 _ (0, 0) (.array 8 45) rfl (setRow_heap _ _ _ _ _ _ HRes.out) Tryd.underlying75 rfl HI.out) rfl ⟨by rw [HOut.out], by rw [HBB.out]; exact below_setRow HV.out.bel (by omega) _⟩
end

section
open Go.RowKit Go.Sort
set_option maxRecDepth 100000
set_option linter.unusedSimpArgs false
set_option linter.unusedVariables false

/-- A word turned right, as the walk spells it. -/
def rotr64 (v n : Int) : Int := bits .or .u64 (v / 2 ^ n.toNat) (IntKind.u64.wrap (v * 2 ^ (64 - n).toNat))
def rot3_64 (v a b c : Int) : Int := bits .xor .u64 (bits .xor .u64 (rotr64 v a) (rotr64 v b)) (rotr64 v c)
def shf3_64 (v a b c : Int) : Int := bits .xor .u64 (bits .xor .u64 (rotr64 v a) (rotr64 v b)) (v / 2 ^ c.toNat)

theorem rotr64_any (v n : Int) (w : World) (h0 : 0 ≤ n) (h1 : n ≤ 64) :
    Calls Tryd.prog 102 #[.int .u64 v, .int .u64 n, .int .u64 64] w fun e w' => e = .returned (.int .u64 (rotr64 v n)) ∧ w' = w := by
  go_enter Tryd.func102, Tryd.ntmps102
  go_wp2
  go_ret
  exact ⟨by simp [rotr64], rfl⟩

theorem rotations64_any (v a b c : Int) (w : World) (a0 : 0 ≤ a) (a1 : a ≤ 64) (b0 : 0 ≤ b) (b1 : b ≤ 64) (c0 : 0 ≤ c) (c1 : c ≤ 64) :
    Calls Tryd.prog 99 #[.int .u64 v, .agg #[.int .u64 a, .int .u64 b, .int .u64 c], .int .u64 64] w fun e w' => e = .returned (.int .u64 (rot3_64 v a b c)) ∧ Below w.heap.size w w' := by
  go_enter Tryd.func99, Tryd.ntmps99
  go_wp2_with fail
  go_quiet ((go_at_call 102; exact Calls.quiet_of_same (rotr64_any _ _ _ (by assumption) (by assumption))))
  go_wp2
  go_ret
  exact ⟨by simp [rot3_64], below_drewN ((Below.refl _ _).alloc (Nat.le_refl _) _) _⟩

theorem shifted64_any (v a b c : Int) (w : World) (a0 : 0 ≤ a) (a1 : a ≤ 64) (b0 : 0 ≤ b) (b1 : b ≤ 64) (c0 : 0 ≤ c) (c1 : c ≤ 64) :
    Calls Tryd.prog 101 #[.int .u64 v, .agg #[.int .u64 a, .int .u64 b, .int .u64 c], .int .u64 64] w fun e w' => e = .returned (.int .u64 (shf3_64 v a b c)) ∧ Below w.heap.size w w' := by
  go_enter Tryd.func101, Tryd.ntmps101
  go_wp2_with fail
  go_quiet ((go_at_call 102; exact Calls.quiet_of_same (rotr64_any _ _ _ (by assumption) (by assumption))))
  go_wp2
  go_ret
  exact ⟨by simp [shf3_64], below_drewN ((Below.refl _ _).alloc (Nat.le_refl _) _) _⟩

/-- The parameters of Sum512. -/
abbrev prm512 : Value := .agg #[.int .i64 128, .int .i64 80, .int .u64 1, .int .u64 8, .int .u64 7, .int .u64 19, .int .u64 61, .int .u64 6, .int .u64 14, .int .u64 18, .int .u64 41, .int .u64 28, .int .u64 34, .int .u64 39]

theorem parameters512_any (w : World) : Calls Tryd.prog 90 #[] w fun e w' => e = .returned prm512 ∧ Below w.heap.size w w' := by
  go_enter Tryd.func90, Tryd.ntmps90
  go_wp2
  exact bodyPost_ret (v := prm512) (by simp [results, Tryd.results90, go_sem]) rfl ⟨rfl, by simpa using (Below.refl _ _).alloc (Nat.le_refl _) _⟩

theorem wordBytes512 (w : World) : Calls Tryd.prog 80 #[prm512] w fun e w' => e = .returned (.int .i64 8) ∧ Below w.heap.size w w' := by
  go_enter Tryd.func80, Tryd.ntmps80
  go_wp2
  go_ret
  exact ⟨rfl, (Below.refl _ _).alloc (Nat.le_refl _) _⟩
theorem lengthBytes512 (w : World) : Calls Tryd.prog 88 #[prm512] w fun e w' => e = .returned (.int .i64 16) ∧ Below w.heap.size w w' := by
  go_enter Tryd.func88, Tryd.ntmps88
  go_wp2
  go_ret
  exact ⟨rfl, (Below.refl _ _).alloc (Nat.le_refl _) _⟩
theorem wordBits512 (w : World) : Calls Tryd.prog 81 #[prm512] w fun e w' => e = .returned (.int .u64 64) ∧ Below w.heap.size w w' := by
  go_enter Tryd.func81, Tryd.ntmps81
  go_wp2
  go_ret
  exact ⟨rfl, (Below.refl _ _).alloc (Nat.le_refl _) _⟩
theorem unused512 (w : World) : Calls Tryd.prog 76 #[prm512] w fun e w' => e = .returned (.int .u64 0) ∧ Below w.heap.size w w' := by
  go_enter Tryd.func76, Tryd.ntmps76
  go_wp2_with (go_at_call 81; refine (wordBits512 _).mono ?_; rintro e w' ⟨rfl, hb⟩)
  go_ret
  exact ⟨rfl, ((Below.refl _ _).alloc (Nat.le_refl _) _).trans (hb.mono (by simp))⟩
end

section
open Go.RowKit Go.Sort
set_option maxRecDepth 100000
set_option linter.unusedSimpArgs false
set_option linter.unusedVariables false

def ld64 (l : List UInt8) : Int := l.foldl (fun v c => bits .or .u64 (IntKind.u64.wrap (v * 256)) (IntKind.u64.wrap (c.toNat : Int))) 0
theorem ld64_snoc (s : ByteArray) (k : Nat) (h : k < s.size) : ld64 (s.data.toList.take (k + 1)) = bits .or .u64 (IntKind.u64.wrap (ld64 (s.data.toList.take k) * 256)) (IntKind.u64.wrap (s[k].toNat : Int)) := by
  unfold ld64
  rw [List.take_succ_eq_append_getElem (by simpa using h), List.foldl_append]
  rfl

theorem load64_any (s : ByteArray) (w : World) (hs : s.size ≤ maxLen) :
    Calls Tryd.prog 100 #[.string s] w fun e w' => e = .returned (.int .u64 (ld64 s.data.toList)) ∧ w = w' := by
  unfold maxLen at hs
  go_enter Tryd.func100, Tryd.ntmps100
  go_wp2
  go_loop [3, 7] (fun v i => ∃ k : Nat, k ≤ s.size ∧ i = .int .i64 k ∧ v = .int .u64 (ld64 (s.data.toList.take k))) (fun _ i => s.size - (intOf i).toNat)
  case atStart => exact ⟨0, Nat.zero_le _, rfl, rfl⟩
  case round =>
    obtain ⟨k, hk, rfl, rfl⟩ := hrel
    by_cases hlt : k < s.size
    · have HS := Lib.hid (ld64_snoc s k hlt)
      generalize ld64 (s.data.toList.take k) = x at *
      go_wp2
      go_round
      case rel => exact ⟨k + 1, by omega, by go_num, by rw [HS.out]⟩
      case measure => simp [intOf]; omega
    · go_wp2
      go_ret
      exact ⟨by rw [List.take_of_length_le (by simp; omega)]; rfl, rfl⟩
end

section
open Go.RowKit Go.Sort
set_option maxRecDepth 100000
set_option linter.unusedSimpArgs false
set_option linter.unusedVariables false

def ext64 (l : List Int) (t : Nat) : Int :=
  IntKind.u64.wrap (IntKind.u64.wrap (IntKind.u64.wrap (l.getD (t - 16) 0 + l.getD (t - 7) 0) + shf3_64 (l.getD (t - 15) 0) 1 8 7) + shf3_64 (l.getD (t - 2) 0) 19 61 6)
def sch64 (ws : List Int) : Nat → List Int
  | 0 => ws
  | n + 1 => sch64 ws n ++ [ext64 (sch64 ws n) (16 + n)]
def wds64 (b : List UInt8) : List Int := (List.range 16).map fun t => ld64 ((b.drop (t * 8)).take 8)
theorem sch64_length (ws : List Int) (h : ws.length = 16) (n : Nat) : (sch64 ws n).length = 16 + n := by
  induction n with
  | zero => simpa [sch64] using h
  | succ n ih => simp [sch64, ih]; omega
theorem wds64_length (b : List UInt8) : (wds64 b).length = 16 := by simp [wds64]
theorem wds64_snoc (b : List UInt8) (k : Nat) (h : k < 16) : (wds64 b).take (k + 1) = (wds64 b).take k ++ [ld64 ((b.drop (k * 8)).take 8)] := by
  rw [List.take_succ_eq_append_getElem (by rw [wds64_length]; exact h)]
  simp [wds64]

/-- So many words, and noughts behind them up to eighty: the cells of the array. -/
def pad80_64 (l : List Int) : Array Value := ((l ++ List.replicate (80 - l.length) 0).map (Value.int .u64)).toArray
theorem pad80_64_size (l : List Int) (h : l.length ≤ 80) : (pad80_64 l).size = 80 := by simp [pad80_64]; omega
theorem pad80_64_get (l : List Int) (j : Nat) (h : j < l.length) : (pad80_64 l)[j]? = some (.int .u64 (l.getD j 0)) := by
  simp [pad80_64, List.getElem?_append, h]
theorem pad80_64_get0 (l : List Int) (j : Nat) (h : l.length ≤ j) (h' : j < 80) : (pad80_64 l)[j]? = some (.int .u64 0) := by
  have : j - l.length < 80 - l.length := by omega
  simp [pad80_64, List.getElem?_append, Nat.not_lt.2 h, this]
theorem pad80_64_set (l : List Int) (x : Int) (h : l.length < 80) : (pad80_64 l).setIfInBounds l.length (.int .u64 x) = pad80_64 (l ++ [x]) := by
  have e : 80 - l.length = (80 - (l.length + 1)) + 1 := by omega
  simp only [pad80_64, List.length_append, List.length_cons, List.length_nil, Nat.zero_add]
  rw [e, List.replicate_succ]
  simp [List.setIfInBounds_toArray, List.set_append]
theorem pad80_64_one (l : List Int) (h : l.length ≤ 80) : (pad80_64 l).all (·.oneCell') = true := by
  simp [pad80_64, Value.oneCell']

/-- One round: the eight words a to h, the round's constant and word. -/
def rnd64 (s : W8) (k w : Int) : W8 :=
  let x := IntKind.u64.wrap (IntKind.u64.wrap (IntKind.u64.wrap (IntKind.u64.wrap (s.h + rot3_64 s.e 14 18 41) + bits .xor .u64 (bits .and .u64 s.e s.f) (bits .and .u64 (bits .xor .u64 IntKind.u64.max s.e) s.g)) + k) + w)
  let y := IntKind.u64.wrap (rot3_64 s.a 28 34 39 + bits .xor .u64 (bits .xor .u64 (bits .and .u64 s.a s.b) (bits .and .u64 s.a s.c)) (bits .and .u64 s.b s.c))
  ⟨IntKind.u64.wrap (x + y), s.a, s.b, s.c, IntKind.u64.wrap (s.d + x), s.e, s.f, s.g⟩
def rnds64 (K W : Nat → Int) (s : W8) : Nat → W8
  | 0 => s
  | n + 1 => rnd64 (rnds64 K W s n) (K n) (W n)
def add64 (s t : W8) : W8 := ⟨IntKind.u64.wrap (s.a + t.a), IntKind.u64.wrap (s.b + t.b), IntKind.u64.wrap (s.c + t.c), IntKind.u64.wrap (s.d + t.d), IntKind.u64.wrap (s.e + t.e), IntKind.u64.wrap (s.f + t.f), IntKind.u64.wrap (s.g + t.g), IntKind.u64.wrap (s.h + t.h)⟩
/-- The cells of eight words. -/
abbrev W8.cells64 (s : W8) : Array Value := #[.int .u64 s.a, .int .u64 s.b, .int .u64 s.c, .int .u64 s.d, .int .u64 s.e, .int .u64 s.f, .int .u64 s.g, .int .u64 s.h]
/-- The state behind k of the eight additions. -/
def mix64 (s t : W8) (k : Nat) : Array Value := ((List.range 8).map fun j => Value.int .u64 (if j < k then IntKind.u64.wrap (s.at j + t.at j) else s.at j)).toArray
theorem mix64_set (s t : W8) (k : Nat) (h : k < 8) : (mix64 s t k).setIfInBounds k (.int .u64 (IntKind.u64.wrap (s.at k + t.at k))) = mix64 s t (k + 1) := by
  rcases lt8 h with rfl | rfl | rfl | rfl | rfl | rfl | rfl | rfl <;> rfl
theorem mix64_get (s t : W8) (k : Nat) (h : k < 8) : (mix64 s t k)[k]? = some (.int .u64 (s.at k)) := by
  rcases lt8 h with rfl | rfl | rfl | rfl | rfl | rfl | rfl | rfl <;> rfl
theorem mix64_zero (s t : W8) : mix64 s t 0 = s.cells64 := rfl
theorem mix64_eight (s t : W8) : mix64 s t 8 = (add64 s t).cells64 := rfl
def comp64 (K : Nat → Int) (s : W8) (b : List UInt8) : W8 := add64 s (rnds64 K (fun t => (sch64 (wds64 b) 64).getD t 0) s 80)
end

section
open Go.RowKit Go.Sort
set_option maxRecDepth 100000
set_option linter.unusedSimpArgs false
set_option linter.unusedVariables false

theorem info80_64 : (Tryd.prog.info? 99).map (fun i => (i.zero, i.size)) = some (some (.agg (pad80_64 [])), 80) := by kernel_rfl

/-- The parameters lie in block b. -/
def PrmBt (W : World) (b : Nat) : Prop := W.heap[b]? = some (.cells #[.int .i64 128, .int .i64 80, .int .u64 1, .int .u64 8, .int .u64 7, .int .u64 19, .int .u64 61, .int .u64 6, .int .u64 14, .int .u64 18, .int .u64 41, .int .u64 28, .int .u64 34, .int .u64 39] 49 (0, 0))
theorem PrmBt.cells {W : World} {b : Nat} (h : PrmBt W b) :
    W.cell? ⟨b, 0, none⟩ = some (.int .i64 128) ∧ W.cell? ⟨b, 1, none⟩ = some (.int .i64 80) ∧
    W.cell? ⟨b, 2, none⟩ = some (.int .u64 1) ∧ W.cell? ⟨b, 3, none⟩ = some (.int .u64 8) ∧ W.cell? ⟨b, 4, none⟩ = some (.int .u64 7) ∧
    W.cell? ⟨b, 5, none⟩ = some (.int .u64 19) ∧ W.cell? ⟨b, 6, none⟩ = some (.int .u64 61) ∧ W.cell? ⟨b, 7, none⟩ = some (.int .u64 6) ∧
    W.cell? ⟨b, 8, none⟩ = some (.int .u64 14) ∧ W.cell? ⟨b, 9, none⟩ = some (.int .u64 18) ∧ W.cell? ⟨b, 10, none⟩ = some (.int .u64 41) ∧
    W.cell? ⟨b, 11, none⟩ = some (.int .u64 28) ∧ W.cell? ⟨b, 12, none⟩ = some (.int .u64 34) ∧ W.cell? ⟨b, 13, none⟩ = some (.int .u64 39) := by
  refine ⟨?_, ?_, ?_, ?_, ?_, ?_, ?_, ?_, ?_, ?_, ?_, ?_, ?_, ?_⟩ <;> (rw [cell_of_row W b _ _ _ _ h]; rfl)
theorem PrmBt.below {W W' : World} {b B : Nat} (h : PrmBt W b) (hb : Below B W W') (hlt : b < B) : PrmBt W' b := (hb.block b hlt).trans h
set_option maxHeartbeats 1000000 in
theorem schedule64_any (s : ByteArray) (w : World) (hs : 128 ≤ s.size) (hs' : s.size ≤ 128) :
    Calls Tryd.prog 98 #[prm512, .string s] w fun e w' => e = .returned (.agg (pad80_64 (sch64 (wds64 s.data.toList) 64))) ∧ Below w.heap.size w w' := by
  obtain ⟨hz, hi⟩ := zero_of_info info80_64
  go_enter Tryd.func98, Tryd.ntmps98
  go_wp2_with fail
  clear hz
  have hP := blk_old (o := .cells (pad80_64 []) 99) (blk_old (o := .cells (pad80_64 []) 99) (blk_new w (.cells #[.int .i64 128, .int .i64 80, .int .u64 1, .int .u64 8, .int .u64 7, .int .u64 19, .int .u64 61, .int .u64 6, .int .u64 14, .int .u64 18, .int .u64 41, .int .u64 28, .int .u64 34, .int .u64 39] 49)))
  have hR := blk_old (o := .cells (pad80_64 []) 99) (blk_new2 w (.cells #[.int .i64 128, .int .i64 80, .int .u64 1, .int .u64 8, .int .u64 7, .int .u64 19, .int .u64 61, .int .u64 6, .int .u64 14, .int .u64 18, .int .u64 41, .int .u64 28, .int .u64 34, .int .u64 39] 49) (.cells (pad80_64 []) 99))
  have hA := blk_new3 w (.cells #[.int .i64 128, .int .i64 80, .int .u64 1, .int .u64 8, .int .u64 7, .int .u64 19, .int .u64 61, .int .u64 6, .int .u64 14, .int .u64 18, .int .u64 41, .int .u64 28, .int .u64 34, .int .u64 39] 49) (.cells (pad80_64 []) 99) (.cells (pad80_64 []) 99)
  have hB := below_new3 w (.cells #[.int .i64 128, .int .i64 80, .int .u64 1, .int .u64 8, .int .u64 7, .int .u64 19, .int .u64 61, .int .u64 6, .int .u64 14, .int .u64 18, .int .u64 41, .int .u64 28, .int .u64 34, .int .u64 39] 49) (.cells (pad80_64 []) 99) (.cells (pad80_64 []) 99)
  generalize (((w.alloc _).alloc _).alloc _) = W at *
  replace hP : PrmBt W w.heap.size := hP
  generalize hBB : w.heap.size = B at *
  have HBB := Lib.hid hBB
  clear hBB
  obtain ⟨c0, c1, c2, c3, c4, c5, c6, c7, c8, c9, c10, c11, c12, c13⟩ := hP.cells
  have k0 := cell_regrown c0; have k1 := cell_regrown c1; have k2 := cell_regrown c2; have k3 := cell_regrown c3; have k4 := cell_regrown c4
  have k5 := cell_regrown c5; have k6 := cell_regrown c6; have k7 := cell_regrown c7; have k8 := cell_regrown c8; have k9 := cell_regrown c9
  have k10 := cell_regrown c10; have k11 := cell_regrown c11; have k12 := cell_regrown c12; have k13 := cell_regrown c13
  have HR := Lib.hid hR; have HA := Lib.hid hA; clear hR hA
  refine wp_region_reads (by kernel_rfl) (by kernel_rfl) ?_
  repeat (quiet_step (first | (go_at_call 80; exact Calls.regrown_of (wordBytes512 _)) | (go_at_call 81; exact Calls.regrown_of (wordBits512 _))))
  refine wpQuiet_nil ?_
  intro W2 hb2
  clear k0 k1 k2 k3 k4 k5 k6 k7 k8 k9 k10 k11 k12 k13 c0 c1 c2 c3 c4 c5 c6 c7 c8 c9 c10 c11 c12 c13
  have hp2 := hP.below hb2 (blk_lt hP)
  have hr2 := blk_below hb2 (blk_lt HR.out) HR.out
  have ha2 := blk_below hb2 (blk_lt HA.out) HA.out
  have hB2 : Below B w W2 := hB.trans (hb2.mono (Nat.le_of_lt (blk_lt hP)))
  clear hP HR HA hB hb2
  go_wp2_with fail
  go_loopw [14] (fun i wr => ∃ k : Nat, k ≤ 16 ∧ i = .int .i64 k ∧ PrmBt wr B ∧ wr.heap[B + 1]? = some (.cells (pad80_64 []) 99) ∧ wr.heap[B + 1 + 1]? = some (.cells (pad80_64 ((wds64 s.data.toList).take k)) 99) ∧ Below B w wr) (fun i _ => 16 - (intOf i).toNat)
  case atStart => exact ⟨0, Nat.zero_le _, rfl, hp2, hr2, ha2, hB2⟩
  case round =>
    obtain ⟨k, hk, rfl, hp, hr, ha, hb⟩ := hrel
    clear hp2 hr2 ha2 hB2
    have hl : ((wds64 s.data.toList).take k).length = k := by simp [wds64_length]; omega
    by_cases hlt : k < 16
    · have hcell : wr.cell? ⟨B + 1 + 1, k, none⟩ = some (.int .u64 0) := by rw [cell_of_row wr _ _ _ _ _ ha]; exact pad80_64_get0 _ _ (by omega) (by omega)
      have hfz : wr.frozen? ⟨B + 1 + 1, k, none⟩ = false := frozen_of_row wr _ _ _ _ ha
      have HP := Lib.hid hp; have HR := Lib.hid hr; have HA := Lib.hid ha; have HL := Lib.hid hl
      clear hp hr ha hl
      go_wp2_with fail
      refine (load64_any _ _ (by simp [maxLen]; omega)).mono ?_
      rintro e w' ⟨rfl, rfl⟩
      have HV : Hid ((k + 1) * 8 - k * 8 = 8) := Lib.hid (by omega)
      go_wp2_with fail
      go_roundw
      case rel =>
        refine ⟨k + 1, by omega, by go_num, ?_, ?_, ?_, hb.setCell (by simp; omega) _⟩
        · exact (heap_setCell_other _ _ _ _ (by simp; omega)).trans HP.out
        · exact (heap_setCell_other _ _ _ _ (by simp)).trans HR.out
        · rw [wds64_snoc _ _ hlt, HV.out]
          have e := pad80_64_set ((wds64 s.data.toList).take k) (ld64 ((s.data.toList.drop (k * 8)).take 8)) (by rw [HL.out]; omega)
          rw [HL.out] at e
          rw [← e]
          exact heap_setCell_same _ _ _ _ _ _ HA.out
      case measure => simp [intOf]; omega
    · have hd : decide ((k : Int) < 16) = false := by simp; omega
      have hk16 : (wds64 s.data.toList).take k = sch64 (wds64 s.data.toList) 0 := by rw [List.take_of_length_le (by rw [wds64_length]; omega)]; rfl
      rw [hk16] at ha
      clear hk16 hl
      have HP := Lib.hid hp; have HR := Lib.hid hr; have HA := Lib.hid ha
      clear hp hr ha
      have hc1 : wr.cell? ⟨B, 1, none⟩ = some (.int .i64 80) := HP.out.cells.2.1
      go_wp2_with fail
      clear hc1
      go_loopw [9] (fun i wr => ∃ t : Nat, 16 ≤ t ∧ t ≤ 80 ∧ i = .int .i64 t ∧ PrmBt wr B ∧ wr.heap[B + 1]? = some (.cells (pad80_64 []) 99) ∧ wr.heap[B + 1 + 1]? = some (.cells (pad80_64 (sch64 (wds64 s.data.toList) (t - 16))) 99) ∧ Below B w wr) (fun i _ => 80 - (intOf i).toNat)
      case atStart => exact ⟨16, Nat.le_refl _, by omega, rfl, HP.out, HR.out, HA.out, hb⟩
      case round =>
        clear HP HR HA hb hd
        obtain ⟨t, ht, ht', rfl, hp, hr, ha, hb⟩ := hrel
        obtain ⟨c0, c1, c2, c3, c4, c5, c6, c7, c8, c9, c10, c11, c12, c13⟩ := hp.cells
        clear c0 c8 c9 c10 c11 c12 c13
        have hl : (sch64 (wds64 s.data.toList) (t - 16)).length = t := by rw [sch64_length _ (wds64_length _)]; omega
        have hz1 := blk_lt ha
        by_cases hlt : t < 80
        · have hd : decide ((t : Int) < 80) = true := by simp; omega
          have hcell : ∀ j, j < t → wr.cell? ⟨B + 1 + 1, j, none⟩ = some (.int .u64 ((sch64 (wds64 s.data.toList) (t - 16)).getD j 0)) := fun j hj => by rw [cell_of_row wr _ _ _ _ _ ha]; exact pad80_64_get _ _ (by omega)
          have d16 := hcell (t - 16) (by omega); have d7 := hcell (t - 7) (by omega); have d15 := hcell (t - 15) (by omega); have d2 := hcell (t - 2) (by omega)
          have dt : wr.cell? ⟨B + 1 + 1, t, none⟩ = some (.int .u64 0) := by rw [cell_of_row wr _ _ _ _ _ ha]; exact pad80_64_get0 _ _ (by omega) (by omega)
          have hfz : wr.frozen? ⟨B + 1 + 1, t, none⟩ = false := frozen_of_row wr _ _ _ _ ha
          have he : ext64 (sch64 (wds64 s.data.toList) (t - 16)) t = IntKind.u64.wrap (IntKind.u64.wrap (IntKind.u64.wrap ((sch64 (wds64 s.data.toList) (t - 16)).getD (t - 16) 0 + (sch64 (wds64 s.data.toList) (t - 16)).getD (t - 7) 0) + shf3_64 ((sch64 (wds64 s.data.toList) (t - 16)).getD (t - 15) 0) 1 8 7) + shf3_64 ((sch64 (wds64 s.data.toList) (t - 16)).getD (t - 2) 0) 19 61 6) := rfl
          generalize (sch64 (wds64 s.data.toList) (t - 16)).getD (t - 16) 0 = x16 at *
          generalize (sch64 (wds64 s.data.toList) (t - 16)).getD (t - 7) 0 = x7 at *
          generalize (sch64 (wds64 s.data.toList) (t - 16)).getD (t - 15) 0 = x15 at *
          generalize (sch64 (wds64 s.data.toList) (t - 16)).getD (t - 2) 0 = x2 at *
          have HP := Lib.hid hp; have HR := Lib.hid hr; have HA := Lib.hid ha; have HL := Lib.hid hl; have HE := Lib.hid he
          clear hp hr ha hl hcell he
          go_wp2_with fail
          have k16 := cell_regrown d16; have k7 := cell_regrown d7; have k15 := cell_regrown d15; have k2 := cell_regrown d2
          have m2 := cell_regrown c2; have m3 := cell_regrown c3; have m4 := cell_regrown c4; have m5 := cell_regrown c5; have m6 := cell_regrown c6; have m7 := cell_regrown c7
          refine wp_region_reads_tail 29 (by kernel_rfl) (by kernel_rfl) ?_
          simp only [List.take_succ_cons, List.take_zero, List.drop_succ_cons, List.drop_zero]
          repeat (first | go_big_quiet_step ((go_at_call 101; exact Calls.regrown_of (shifted64_any _ _ _ _ _ (by omega) (by omega) (by omega) (by omega) (by omega) (by omega)))) | quiet_step ((go_at_call 101; exact Calls.regrown_of (shifted64_any _ _ _ _ _ (by omega) (by omega) (by omega) (by omega) (by omega) (by omega)))))
          refine wpQuiet_nil ?_
          intro W3 hb3
          clear k16 k7 k15 k2 m2 m3 m4 m5 m6 m7
          have dt3 : W3.cell? ⟨B + 1 + 1, t, none⟩ = some (.int .u64 0) := (hb3.cell (by simpa using hz1)).trans dt
          have hfz3 : W3.frozen? ⟨B + 1 + 1, t, none⟩ = false := (hb3.frozen (by simpa using hz1)).trans hfz
          have hsz3 := hb3.size
          have hb4 : Below B w W3 := hb.trans (hb3.mono (by omega))
          have HP3 := Lib.hid (HP.out.below hb3 (by omega)); have HR3 := Lib.hid (blk_below hb3 (by omega) HR.out); have HA3 := Lib.hid (blk_below hb3 hz1 HA.out)
          clear HP HR HA d16 d7 d15 d2 dt hfz hb3 hb c1 c2 c3 c4 c5 c6 c7
          go_wp2_with fail
          go_roundw
          case rel =>
            refine ⟨t + 1, by omega, by omega, by go_num, ?_, ?_, ?_, hb4.setCell (by simp; omega) _⟩
            · exact (heap_setCell_other _ _ _ _ (by simp; omega)).trans HP3.out
            · exact (heap_setCell_other _ _ _ _ (by simp)).trans HR3.out
            · have e := pad80_64_set (sch64 (wds64 s.data.toList) (t - 16)) (ext64 (sch64 (wds64 s.data.toList) (t - 16)) t) (by rw [HL.out]; omega)
              rw [HL.out] at e
              have e2 : sch64 (wds64 s.data.toList) (t + 1 - 16) = sch64 (wds64 s.data.toList) (t - 16) ++ [ext64 (sch64 (wds64 s.data.toList) (t - 16)) t] := by
                rw [show t + 1 - 16 = (t - 16) + 1 by omega, sch64, show 16 + (t - 16) = t by omega]
              rw [e2, ← e]
              refine (heap_setCell_same _ _ _ _ _ _ HA3.out).trans ?_
              rw [HE.out]
          case measure => simp [intOf]; omega
        · have hd : decide ((t : Int) < 80) = false := by simp; omega
          obtain rfl : t = 80 := by omega
          have HP := Lib.hid hp; have HR := Lib.hid hr; have HA := Lib.hid ha
          have hlen : (sch64 (wds64 s.data.toList) (80 - 16)).length ≤ 80 := by rw [sch64_length _ (wds64_length _)]; omega
          have HI := Lib.hid (show (Tryd.prog.info? 99).map (·.size) = some (pad80_64 (sch64 (wds64 s.data.toList) (80 - 16))).size from by rw [pad80_64_size _ hlen]; exact hi)
          have HO := Lib.hid (show (pad80_64 []).size = (pad80_64 (sch64 (wds64 s.data.toList) (80 - 16))).size from by rw [pad80_64_size _ hlen, pad80_64_size _ (by simp)])
          have H1 := Lib.hid (pad80_64_one _ hlen)
          clear hp hr ha hl c2 c3 c4 c5 c6 c7 hi hlen
          go_wp2_with (first
            | (with_reducible refine wpList_load_row rfl 99 _ rfl (B + 1 + 1) rfl 99 _ (0, 0) (.array 80 54) HA.out Tryd.underlying99 rfl HI.out ?_)
            | (with_reducible refine wpList_store_row rfl 99 _ _ rfl (B + 1) (pad80_64 (sch64 (wds64 s.data.toList) (80 - 16))) rfl rfl 99 _ HR.out HI.out HO.out H1.out ?_))
          exact bodyPost_ret (v := .agg (pad80_64 (sch64 (wds64 s.data.toList) (80 - 16)))) (results_cell_row (by rfl) _ _ (B + 1) 99 _ (0, 0) (.array 80 54) rfl (setRow_heap _ _ _ _ _ _ HR.out) Tryd.underlying99 rfl HI.out) rfl ⟨rfl, by rw [HBB.out]; exact below_setRow hb (by omega) _⟩
end

section
open Go.RowKit Go.Sort
set_option maxRecDepth 100000
set_option linter.unusedSimpArgs false
set_option linter.unusedVariables false

theorem info8_64 : (Tryd.prog.info? 89).map (fun i => (i.zero, i.size)) = some (some (.agg #[.int .u64 0, .int .u64 0, .int .u64 0, .int .u64 0, .int .u64 0, .int .u64 0, .int .u64 0, .int .u64 0]), 8) := by kernel_rfl
theorem index8_64 (s : W8) (w : World) (k : Nat) (h : k < 8) : (Instr.index 89 (.agg s.cells64) (.int .i64 (k : Int))).run Tryd.prog w = .ok (.int .u64 (s.at k)) w := by
  rcases lt8 h with rfl | rfl | rfl | rfl | rfl | rfl | rfl | rfl <;> kernel_rfl

/-- What lies where while compress runs: the parameters, the state, the result, the words of the schedule, the table. -/
structure CInv64 (K : Nat → Int) (w W : World) (B G : Nat) (S ws : Array Value) : Prop where
  prm : PrmBt W B
  row : W.heap[B + 1]? = some (.cells S 89)
  res : W.heap[B + 1 + 1]? = some (.cells #[.int .u64 0, .int .u64 0, .int .u64 0, .int .u64 0, .int .u64 0, .int .u64 0, .int .u64 0, .int .u64 0] 89)
  wds : W.heap[G]? = some (.cells ws 99)
  tab : TabK W K
  low : 1 < B
  bel : Below B w W
  lt : B + 1 + 1 < G
theorem CInv64.step {K : Nat → Int} {w W W' : World} {B G : Nat} {S ws : Array Value} (h : CInv64 K w W B G S ws) (hb : Below W.heap.size W W') : CInv64 K w W' B G S ws :=
  ⟨h.prm.below hb (blk_lt h.prm), blk_below hb (blk_lt h.row) h.row, blk_below hb (blk_lt h.res) h.res, blk_below hb (blk_lt h.wds) h.wds, h.tab.below hb h.tab.lt, h.low,
   h.bel.trans (hb.mono (Nat.le_of_lt (blk_lt h.prm))), h.lt⟩
theorem CInv64.state {K : Nat → Int} {w W : World} {B G : Nat} {st : W8} {ws : Array Value} (h : CInv64 K w W B G st.cells64 ws) :
    W.cell? ⟨B + 1, 0, none⟩ = some (.int .u64 st.a) ∧ W.cell? ⟨B + 1, 1, none⟩ = some (.int .u64 st.b) ∧ W.cell? ⟨B + 1, 2, none⟩ = some (.int .u64 st.c) ∧ W.cell? ⟨B + 1, 3, none⟩ = some (.int .u64 st.d) ∧
    W.cell? ⟨B + 1, 4, none⟩ = some (.int .u64 st.e) ∧ W.cell? ⟨B + 1, 5, none⟩ = some (.int .u64 st.f) ∧ W.cell? ⟨B + 1, 6, none⟩ = some (.int .u64 st.g) ∧ W.cell? ⟨B + 1, 7, none⟩ = some (.int .u64 st.h) := by
  refine ⟨?_, ?_, ?_, ?_, ?_, ?_, ?_, ?_⟩ <;> (rw [cell_of_row W _ _ _ _ _ h.row]; rfl)

set_option maxHeartbeats 1000000 in
set_option maxRecDepth 100000 in
theorem compress64_any (K : Nat → Int) (st : W8) (s : ByteArray) (w : World) (hs : 128 ≤ s.size) (hs' : s.size ≤ 128) (hK : TabK w K) :
    Calls Tryd.prog 97 #[prm512, .agg st.cells64, .string s] w fun e w' => e = .returned (.agg (comp64 (fun t => K t) st s.data.toList).cells64) ∧ Below w.heap.size w w' := by
  have Hz := Lib.hid (zero_of_info info80_64)
  go_enter Tryd.func97, Tryd.ntmps97
  go_wp2_with fail
  have hP := blk_old (o := .cells #[.int .u64 0, .int .u64 0, .int .u64 0, .int .u64 0, .int .u64 0, .int .u64 0, .int .u64 0, .int .u64 0] 89) (blk_old (o := .cells st.cells64 89) (blk_new w (.cells #[.int .i64 128, .int .i64 80, .int .u64 1, .int .u64 8, .int .u64 7, .int .u64 19, .int .u64 61, .int .u64 6, .int .u64 14, .int .u64 18, .int .u64 41, .int .u64 28, .int .u64 34, .int .u64 39] 49)))
  have hR := blk_old (o := .cells #[.int .u64 0, .int .u64 0, .int .u64 0, .int .u64 0, .int .u64 0, .int .u64 0, .int .u64 0, .int .u64 0] 89) (blk_new2 w (.cells #[.int .i64 128, .int .i64 80, .int .u64 1, .int .u64 8, .int .u64 7, .int .u64 19, .int .u64 61, .int .u64 6, .int .u64 14, .int .u64 18, .int .u64 41, .int .u64 28, .int .u64 34, .int .u64 39] 49) (.cells st.cells64 89))
  have hA := blk_new3 w (.cells #[.int .i64 128, .int .i64 80, .int .u64 1, .int .u64 8, .int .u64 7, .int .u64 19, .int .u64 61, .int .u64 6, .int .u64 14, .int .u64 18, .int .u64 41, .int .u64 28, .int .u64 34, .int .u64 39] 49) (.cells st.cells64 89) (.cells #[.int .u64 0, .int .u64 0, .int .u64 0, .int .u64 0, .int .u64 0, .int .u64 0, .int .u64 0, .int .u64 0] 89)
  have hB := below_new3 w (.cells #[.int .i64 128, .int .i64 80, .int .u64 1, .int .u64 8, .int .u64 7, .int .u64 19, .int .u64 61, .int .u64 6, .int .u64 14, .int .u64 18, .int .u64 41, .int .u64 28, .int .u64 34, .int .u64 39] 49) (.cells st.cells64 89) (.cells #[.int .u64 0, .int .u64 0, .int .u64 0, .int .u64 0, .int .u64 0, .int .u64 0, .int .u64 0, .int .u64 0] 89)
  generalize (((w.alloc _).alloc _).alloc _) = W at *
  have hlow := hK.lt
  have hK1 := hK.below hB hlow
  generalize hBB : w.heap.size = B at *
  have HBB := Lib.hid hBB
  clear hBB hK
  refine (schedule64_any s _ hs hs').mono ?_
  rintro e w1 ⟨rfl, hb1⟩
  have hlen : (sch64 (wds64 s.data.toList) 64).length = 80 := by rw [sch64_length _ (wds64_length _)]
  have HC := Lib.hid (show comp64 (fun t => K t) st s.data.toList = add64 st (rnds64 (fun t => K t) (fun t => (sch64 (wds64 s.data.toList) 64).getD t 0) st 80) from rfl)
  generalize hOut : comp64 (fun t => K t) st s.data.toList = out at *
  have HOut := Lib.hid hOut
  clear hOut
  generalize sch64 (wds64 s.data.toList) 64 = ws at *
  have hsz := pad80_64_size ws (by omega)
  have hi := Hz.out.2
  have HI := Lib.hid (show (Tryd.prog.info? 99).map (·.size) = some (pad80_64 ws).size from by rw [hsz]; exact hi)
  have HO := Lib.hid (show (pad80_64 []).size = (pad80_64 ws).size from by rw [hsz, pad80_64_size _ (by simp)])
  have H1 := Lib.hid (pad80_64_one ws (by omega))
  have hz := Hz.out.1
  have HL := Lib.hid hlen
  clear hsz hi hlen
  have hg1 := blk_below hb1 (blk_lt hA) hA
  have hinv : CInv64 K w ((w1.alloc (.cells (pad80_64 []) 99)).setRow w1.heap.size (pad80_64 ws)) B w1.heap.size st.cells64 (pad80_64 ws) := by
    have l1 := blk_lt hg1
    have ne : ∀ k, k < B + 1 + 1 + 1 → k ≠ w1.heap.size := fun k hk => by omega
    refine ⟨?_, ?_, ?_, ?_, ?_, by omega, ?_, by omega⟩
    · exact (setRow_other _ _ _ _ (ne _ (by omega))).trans (blk_old (blk_below hb1 (blk_lt hP) hP))
    · exact (setRow_other _ _ _ _ (ne _ (by omega))).trans (blk_old (blk_below hb1 (blk_lt hR) hR))
    · exact (setRow_other _ _ _ _ (ne _ (by omega))).trans (blk_old hg1)
    · exact setRow_heap _ _ _ _ _ _ (blk_new w1 _)
    · have h1 := hK1.below hb1 hK1.lt
      exact fun t ht => (cell_setRow_other _ _ _ _ (by simp; omega)).trans ((below_new w1 _).cell (by simp; omega) |>.trans (h1 t ht))
    · exact below_setRow ((hB.trans (hb1.mono (Nat.le_of_lt (blk_lt hP)))).alloc (by omega) _) (by omega) _
  have HG := Lib.hid (blk_new w1 (.cells (pad80_64 []) 99))
  clear hP hR hA hB hb1 hK1 hg1
  go_wp2_with (with_reducible refine wpList_store_row rfl 99 _ _ rfl w1.heap.size (pad80_64 ws) rfl rfl 99 _ HG.out HI.out HO.out H1.out ?_)
  clear Hz HG HI HO H1 hz
  generalize (w1.alloc (.cells (pad80_64 []) 99)).setRow w1.heap.size (pad80_64 ws) = W2 at *
  generalize w1.heap.size = G at *
  simp only [Act.put]
  have HV := Lib.hid hinv
  clear hinv
  -- the bits of a word, and how many are left out
  · obtain ⟨c0, c1, c2, c3, c4, c5, c6, c7, c8, c9, c10, c11, c12, c13⟩ := HV.out.prm.cells
    have k0 := cell_regrown c0; have k1 := cell_regrown c1; have k2 := cell_regrown c2; have k3 := cell_regrown c3; have k4 := cell_regrown c4
    have k5 := cell_regrown c5; have k6 := cell_regrown c6; have k7 := cell_regrown c7; have k8 := cell_regrown c8; have k9 := cell_regrown c9
    have k10 := cell_regrown c10; have k11 := cell_regrown c11; have k12 := cell_regrown c12; have k13 := cell_regrown c13
    refine wp_region_reads (by kernel_rfl) (by kernel_rfl) ?_
    repeat (quiet_step (first | (go_at_call 76; exact Calls.regrown_of (unused512 _)) | (go_at_call 81; exact Calls.regrown_of (wordBits512 _))))
    refine wpQuiet_nil ?_
    intro W3 hb3
    replace HV := Lib.hid (HV.out.step hb3)
    clear k0 k1 k2 k3 k4 k5 k6 k7 k8 k9 k10 k11 k12 k13 c0 c1 c2 c3 c4 c5 c6 c7 c8 c9 c10 c11 c12 c13 hb3
    go_wp2_with fail
    -- the words of the state
    obtain ⟨c0, c1, c2, c3, c4, c5, c6, c7⟩ := HV.out.state
    have k0 := cell_regrown c0; have k1 := cell_regrown c1; have k2 := cell_regrown c2; have k3 := cell_regrown c3
    refine wp_region_reads (by kernel_rfl) (by kernel_rfl) ?_
    repeat (first | go_big_quiet_step (fail) | quiet_step (fail))
    refine wpQuiet_nil ?_
    intro W4 hb4
    replace HV := Lib.hid (HV.out.step hb4)
    clear k0 k1 k2 k3 c0 c1 c2 c3 c4 c5 c6 c7 hb4
    go_wp2_with fail
    obtain ⟨c0, c1, c2, c3, c4, c5, c6, c7⟩ := HV.out.state
    have k4 := cell_regrown c4; have k5 := cell_regrown c5; have k6 := cell_regrown c6; have k7 := cell_regrown c7
    refine wp_region_reads (by kernel_rfl) (by kernel_rfl) ?_
    repeat (first | go_big_quiet_step (fail) | quiet_step (fail))
    refine wpQuiet_nil ?_
    intro W5 hb5
    replace HV := Lib.hid (HV.out.step hb5)
    clear k4 k5 k6 k7 c0 c1 c2 c3 c4 c5 c6 c7 hb5
    have c1 := HV.out.prm.cells.2.1
    go_wp2_with fail
    clear c1
    go_loopw [10, 11, 12, 13, 14, 15, 16, 17, 49] (fun a b c d e f g h i wr => ∃ (t : Nat) (r : W8), t ≤ 80 ∧ i = .int .i64 t ∧ Hid (rnds64 (fun t => K t) (fun t => ws.getD t 0) st t = r) ∧
        a = .int .u64 r.a ∧ b = .int .u64 r.b ∧ c = .int .u64 r.c ∧ d = .int .u64 r.d ∧ e = .int .u64 r.e ∧ f = .int .u64 r.f ∧ g = .int .u64 r.g ∧ h = .int .u64 r.h ∧ CInv64 K w wr B G st.cells64 (pad80_64 ws)) (fun _ _ _ _ _ _ _ _ i _ => 80 - (intOf i).toNat)
    case atStart => exact ⟨0, st, by omega, rfl, Lib.hid rfl, rfl, rfl, rfl, rfl, rfl, rfl, rfl, rfl, HV.out⟩
    case round =>
      clear HV
      obtain ⟨t, ⟨xa, xb, xc, xd, xe, xf, xg, xh⟩, ht, rfl, HR, rfl, rfl, rfl, rfl, rfl, rfl, rfl, rfl, hv⟩ := hrel
      have HV := Lib.hid hv
      clear hv
      by_cases hlt : t < 80
      · have hd : decide ((t : Int) < 80) = true := by simp; omega
        have ck := HV.out.tab t (by omega)
        have cw : wr.cell? ⟨G, t, none⟩ = some (.int .u64 (ws.getD t 0)) := by rw [cell_of_row wr _ _ _ _ _ HV.out.wds]; exact pad80_64_get _ _ (by have := HL.out; omega)
        obtain ⟨c0, c1, c2, c3, c4, c5, c6, c7, c8, c9, c10, c11, c12, c13⟩ := HV.out.prm.cells
        clear c0 c1 c2 c3 c4 c5 c6 c7
        have HS := Lib.hid (show rnds64 (fun t => K t) (fun t => ws.getD t 0) st (t + 1) = rnd64 ⟨xa, xb, xc, xd, xe, xf, xg, xh⟩ (K t) (ws.getD t 0) from by rw [rnds64, HR.out])
        generalize ws.getD t 0 = xw at *
        generalize K t = xk at *
        go_wp2_with fail
        have k8 := cell_regrown c8; have k9 := cell_regrown c9; have k10 := cell_regrown c10; have kw := cell_regrown cw
        refine wp_region_reads (by kernel_rfl) (by kernel_rfl) ?_
        repeat (first | go_big_quiet_step ((go_at_call 99; exact Calls.regrown_of (rotations64_any _ _ _ _ _ (by omega) (by omega) (by omega) (by omega) (by omega) (by omega)))) | quiet_step ((go_at_call 99; exact Calls.regrown_of (rotations64_any _ _ _ _ _ (by omega) (by omega) (by omega) (by omega) (by omega) (by omega)))))
        refine wpQuiet_nil ?_
        intro W6 hb6
        replace HV := Lib.hid (HV.out.step hb6)
        clear ck cw c8 c9 c10 c11 c12 c13 k8 k9 k10 kw hb6
        obtain ⟨c0, c1, c2, c3, c4, c5, c6, c7, c8, c9, c10, c11, c12, c13⟩ := HV.out.prm.cells
        clear c0 c1 c2 c3 c4 c5 c6 c7 c8 c9 c10
        go_wp2_with fail
        refine (rotations64_any _ _ _ _ _ (by omega) (by omega) (by omega) (by omega) (by omega) (by omega)).mono ?_
        rintro e W7 ⟨rfl, hb7⟩
        replace HV := Lib.hid (HV.out.step hb7)
        clear c11 c12 c13 hb7
        go_wp2_with fail
        go_roundw
        case rel => 
          refine ⟨t + 1, rnd64 ⟨xa, xb, xc, xd, xe, xf, xg, xh⟩ xk xw, by omega, by go_num, HS, ?_, rfl, rfl, rfl, ?_, rfl, rfl, rfl, HV.out⟩
          · simp only [rnd64]
          · simp only [rnd64]
        case measure => simp [intOf]; omega
      · have hd : decide ((t : Int) < 80) = false := by simp; omega
        obtain rfl : t = 80 := by omega
        go_wp2_with fail
        have HX := Lib.hid (index8_64 ⟨xa, xb, xc, xd, xe, xf, xg, xh⟩)
        go_loopw [118] (fun i wr => ∃ k : Nat, k ≤ 8 ∧ i = .int .i64 k ∧ CInv64 K w wr B G (mix64 st ⟨xa, xb, xc, xd, xe, xf, xg, xh⟩ k) (pad80_64 ws)) (fun i _ => 8 - (intOf i).toNat)
        case atStart => exact ⟨0, by omega, rfl, HV.out⟩
        case round =>
          clear HV hd
          obtain ⟨k, hk, rfl, hv⟩ := hrel
          have HV := Lib.hid hv
          clear hv
          by_cases hk8 : k < 8
          · have hd : decide ((k : Int) < 8) = true := by simp; omega
            have hix : ∀ w, (Instr.index 89 (.agg #[.int .u64 xa, .int .u64 xb, .int .u64 xc, .int .u64 xd, .int .u64 xe, .int .u64 xf, .int .u64 xg, .int .u64 xh]) (.int .i64 (k : Int))).run Tryd.prog w = .ok (.int .u64 (W8.at ⟨xa, xb, xc, xd, xe, xf, xg, xh⟩ k)) w := fun w => HX.out w k hk8
            have cs : wr.cell? ⟨B + 1, k, none⟩ = some (.int .u64 (st.at k)) := by rw [cell_of_row wr _ _ _ _ _ HV.out.row]; exact mix64_get _ _ _ hk8
            have fs : wr.frozen? ⟨B + 1, k, none⟩ = false := frozen_of_row wr _ _ _ _ HV.out.row
            go_wp2_with fail
            go_roundw
            case rel =>
              refine ⟨k + 1, by omega, by go_num, ?_⟩
              have h := HV.out
              have l1 := h.lt
              have l0 := h.low
              refine ⟨?_, ?_, ?_, ?_, ?_, l0, h.bel.setCell (by simp) _, l1⟩
              · exact (heap_setCell_other _ _ _ _ (by simp)).trans h.prm
              · rw [← mix64_set _ _ _ hk8]; exact heap_setCell_same _ _ _ _ _ _ h.row
              · exact (heap_setCell_other _ _ _ _ (by simp)).trans h.res
              · exact (heap_setCell_other _ _ _ _ (by simp; omega)).trans h.wds
              · exact fun t ht => (World.cell?_setCell_far _ _ _ _ (by simp; omega)).trans (h.tab t ht)
            case measure => simp [intOf]; omega
          · have hd : decide ((k : Int) < 8) = false := by simp; omega
            obtain rfl : k = 8 := by omega
            have hrow := HV.out.row
            rw [mix64_eight] at hrow
            have HRow := Lib.hid hrow
            have HRes := Lib.hid HV.out.res
            have HI := Lib.hid (show (Tryd.prog.info? 89).map (·.size) = some out.cells64.size from (zero_of_info info8_64).2)
            have HO8 := Lib.hid (show (#[.int .u64 0, .int .u64 0, .int .u64 0, .int .u64 0, .int .u64 0, .int .u64 0, .int .u64 0, .int .u64 0] : Array Value).size = out.cells64.size from rfl)
            have H18 := Lib.hid (show out.cells64.all (·.oneCell') = true from by simp [Value.oneCell'])
            have HO : Hid (out = add64 st ⟨xa, xb, xc, xd, xe, xf, xg, xh⟩) := Lib.hid (by rw [HC.out, HR.out])
            rw [← HO.out] at HRow
            clear hrow hd
            go_wp2_with (first
              | (with_reducible refine wpList_load_row rfl 89 _ rfl (B + 1) rfl 89 _ (0, 0) (.array 8 54) HRow.out Tryd.underlying89 rfl HI.out ?_)
              | (with_reducible refine wpList_store_row rfl 89 _ _ rfl (B + 1 + 1) out.cells64 rfl rfl 89 _ HRes.out HI.out HO8.out H18.out ?_))
            exact bodyPost_ret (v := .agg out.cells64) (results_cell_row (by rfl) _ _ (B + 1 + 1) 89 _ (0, 0) (.array 8 54) rfl (setRow_heap _ _ _ _ _ _ HRes.out) Tryd.underlying89 rfl HI.out) rfl ⟨by rw [HOut.out], by rw [HBB.out]; exact below_setRow HV.out.bel (by omega) _⟩
end
end Go.Proofs.YtjjgakkijhjaiaaDoor
