/- The ladder of the document on numbers: a step on four numbers, 255 of them, the share; which bits do not count; the chapter's examples. No program. -/
import Derived.Test.YtnodllkfmdhhlaaDoorFldA
namespace Go.Proofs.YtnodllkfmdhhlaaDoor
set_option maxRecDepth 100000
set_option linter.unusedSimpArgs false
set_option linter.unusedVariables false

/-- Four numbers. -/
structure Rung where
  a : Nat
  b : Nat
  c : Nat
  d : Nat
def Rung.ok (q : Rung) : Prop := q.a < pF ∧ q.b < pF ∧ q.c < pF ∧ q.d < pF
/-- a and c, and b and d, exchanged if the bit is 1. -/
def Rung.turn (n : Nat) (q : Rung) : Rung := if n = 1 then ⟨q.c, q.d, q.a, q.b⟩ else q
theorem turn_one (q : Rung) : q.turn 1 = ⟨q.c, q.d, q.a, q.b⟩ := rfl
theorem turn_zero (q : Rung) : q.turn 0 = q := rfl
theorem turn_ok (n : Nat) (q : Rung) (h : q.ok) : (q.turn n).ok := by
  unfold Rung.turn
  split
  · exact ⟨h.2.2.1, h.2.2.2, h.1, h.2.1⟩
  · exact h
/-- What a step makes of them between the exchanges. -/
def rgM (q : Rung) : Nat := addF q.a q.b
def rgN (q : Rung) : Nat := subF q.a q.b
def rgO (q : Rung) : Nat := mulF (rgM q) (rgM q)
def rgQ (q : Rung) : Nat := mulF (rgN q) (rgN q)
def rgR (q : Rung) : Nat := subF (rgO q) (rgQ q)
def rgS (q : Rung) : Nat := mulF (subF q.c q.d) (rgM q)
def rgT (q : Rung) : Nat := mulF (addF q.c q.d) (rgN q)
def rgX (q : Rung) : Nat := addF (rgT q) (rgS q)
def rgY (q : Rung) : Nat := subF (rgT q) (rgS q)
def rgC (q : Rung) : Nat := mulF (rgX q) (rgX q)
def rgD (u : Nat) (q : Rung) : Nat := mulF u (mulF (rgY q) (rgY q))
def rgA (q : Rung) : Nat := mulF (rgO q) (rgQ q)
def rgB (q : Rung) : Nat := mulF (rgR q) (addF (rgO q) (mulF 121665 (rgR q)))
def rungMid (u : Nat) (q : Rung) : Rung := ⟨rgA q, rgB q, rgC q, rgD u q⟩
theorem mid_ok (u : Nat) (q : Rung) : (rungMid u q).ok := ⟨mulF_lt _ _, mulF_lt _ _, mulF_lt _ _, mulF_lt _ _⟩
def rungStep (u n : Nat) (q : Rung) : Rung := (rungMid u (q.turn n)).turn n
theorem step_ok (u n : Nat) (q : Rung) : (rungStep u n q).ok := turn_ok _ _ (mid_ok _ _)

/-- A bit of a text's number. -/
def bitL (l : List UInt8) (i : Nat) : Nat := (l.getD (i / 8) 0).toNat / 2 ^ (i % 8) % 2
theorem bitL_lt (l : List UInt8) (i : Nat) : bitL l i < 2 := Nat.mod_lt _ (by decide)
theorem bitL_cases (l : List UInt8) (i : Nat) : bitL l i = 0 ∨ bitL l i = 1 := by have := bitL_lt l i; omega
theorem leV_byte (l : List UInt8) : ∀ n i, i < n → leV l n / 256 ^ i % 256 = (l.getD i 0).toNat
  | 0, i, h => absurd h (Nat.not_lt_zero _)
  | n + 1, i, h => by
    rw [leV]
    have hl := leV_lt l n
    have hb : (l.getD n 0).toNat < 256 := (l.getD n 0).toNat_lt
    by_cases e : i = n
    · subst e
      rw [Nat.mul_comm, Nat.add_mul_div_left _ _ (Nat.pow_pos (by decide)), Nat.div_eq_of_lt hl, Nat.zero_add, Nat.mod_eq_of_lt hb]
    · obtain ⟨k, hk⟩ : ∃ k, n = i + (k + 1) := ⟨n - i - 1, by omega⟩
      rw [← leV_byte l n i (by omega)]
      have hd : (l.getD n 0).toNat * 256 ^ n = 256 ^ i * ((l.getD n 0).toNat * 256 ^ k * 256) := by
        rw [hk, Nat.pow_add, Nat.pow_succ]; simp only [Nat.mul_assoc, Nat.mul_left_comm, Nat.mul_comm]
      rw [hd, Nat.add_mul_div_left _ _ (Nat.pow_pos (by decide)), Nat.add_mul_mod_self_right]
theorem leV_bit (l : List UInt8) (n i : Nat) (h : i < 8 * n) : leV l n / 2 ^ i % 2 = bitL l i := by
  have h1 := leV_byte l n (i / 8) (by omega)
  rw [bitL, ← h1]
  have hp : (2 : Nat) ^ i = 256 ^ (i / 8) * 2 ^ (i % 8) := by
    rw [show (256 : Nat) = 2 ^ 8 from rfl, ← Nat.pow_mul, ← Nat.pow_add, Nat.div_add_mod]
  rw [hp, ← Nat.div_div_eq_div_mul]
  generalize leV l n / 256 ^ (i / 8) = x
  have hr : i % 8 < 8 := Nat.mod_lt _ (by decide)
  generalize i % 8 = r at hr
  rcases (show r = 0 ∨ r = 1 ∨ r = 2 ∨ r = 3 ∨ r = 4 ∨ r = 5 ∨ r = 6 ∨ r = 7 by omega) with rfl | rfl | rfl | rfl | rfl | rfl | rfl | rfl <;> simp only [Nat.reducePow] <;> omega

/-- The ladder: so many of the 255 steps. -/
def ladN (u : Nat) (l : List UInt8) : Nat → Rung
  | 0 => ⟨1, 0, u, 1⟩
  | n + 1 => rungStep u (bitL l (254 - n)) (ladN u l n)
theorem lad_ok (u : Nat) (hu : u < pF) (l : List UInt8) : ∀ n, (ladN u l n).ok
  | 0 => ⟨show 1 < pF by decide, show 0 < pF by decide, hu, show 1 < pF by decide⟩
  | n + 1 => step_ok _ _ _
/-- It speaks of 255 bits alone. -/
theorem ladN_bits (u : Nat) (l k : List UInt8) (h : ∀ i, i < 255 → bitL l i = bitL k i) : ∀ n, n ≤ 255 → ladN u l n = ladN u k n
  | 0, _ => rfl
  | n + 1, hn => by rw [ladN, ladN, h _ (by omega), ladN_bits u l k h n (by omega)]
/-- The bytes of the scalar, and those of the public key. -/
def clampL (l : List UInt8) : List UInt8 := (l.set 0 (l.getD 0 0 &&& 248)).set 31 (l.getD 31 0 &&& 127 ||| 64)
def maskL (l : List UInt8) : List UInt8 := l.set 31 (l.getD 31 0 &&& 127)
theorem clampL_length (l : List UInt8) : (clampL l).length = l.length := by simp [clampL]
theorem maskL_length (l : List UInt8) : (maskL l).length = l.length := by simp [maskL]
theorem maskL_take (l : List UInt8) (h : l.length = 32) : l.take 31 ++ [l.getD 31 0 &&& 127] = maskL l := by
  rw [maskL, List.set_eq_take_append_cons_drop, if_pos (by omega), List.drop_of_length_le (by omega)]
/-- The number that a public key is, what the ladder comes to, and the share. -/
def pubF (p : List UInt8) : Nat := leV (maskL p) 32 % pF
theorem pubF_lt (p : List UInt8) : pubF p < pF := Nat.mod_lt _ pF_pos
def ladF (s p : List UInt8) : Rung := ladN (pubF p) (clampL s) 255
def shareF (s p : List UInt8) : Nat := mulF (ladF s p).a (invF (ladF s p).b)
theorem shareF_lt (s p : List UInt8) : shareF s p < pF := mulF_lt _ _
def shareL (s p : List UInt8) : List UInt8 := leF (shareF s p) 32
theorem shareL_length (s p : List UInt8) : (shareL s p).length = 32 := leF_length _ _
def nineL : List UInt8 := 9 :: List.replicate 31 0
theorem nineL_length : nineL.length = 32 := rfl

/-- All bytes nought: the number is. -/
theorem leV_leF (x : Nat) : ∀ n, leV (leF x n) n = x % 256 ^ n := by
  have h : ∀ m n, n ≤ m → leV (leF x m) n = x % 256 ^ n := by
    intro m n
    induction n with
    | zero => intro _; rw [leV, Nat.pow_zero, Nat.mod_one]
    | succ n ih =>
      intro hn
      rw [leV, ih (by omega), leF_get _ _ _ (by omega), Nat.pow_succ, Nat.mod_mul]
      rw [show (UInt8.ofNat (x / 256 ^ n)).toNat = x / 256 ^ n % 256 from by simp, Nat.mul_comm]
  exact fun n => h n n (Nat.le_refl _)
theorem leV_zeros : ∀ m n, leV (List.replicate m 0) n = 0
  | m, 0 => rfl
  | m, n + 1 => by
    rw [leV, leV_zeros m n]
    by_cases h : n < m
    · simp [List.getD_eq_getElem?_getD, h]
    · simp [List.getD_eq_getElem?_getD, h]
theorem leF_zero_iff (x : Nat) (hx : x < pF) : leF x 32 = List.replicate 32 0 ↔ x = 0 := by
  constructor
  · intro h
    have h1 := leV_leF x 32
    rw [h, leV_zeros] at h1
    have hm : pF < 256 ^ 32 := by decide
    rw [Nat.mod_eq_of_lt (by omega)] at h1
    exact h1.symm
  · rintro rfl
    decide

/-- Bits that do not count. -/
theorem byte_part (x y a b : BitVec 8) (h : a &&& b = 0#8) : (x ^^^ y &&& a) &&& b = x &&& b := by
  refine BitVec.eq_of_getLsbD_eq fun i hi => ?_
  have hi2 : (a &&& b).getLsbD i = (0#8).getLsbD i := by rw [h]
  rw [BitVec.getLsbD_and] at hi2
  rw [BitVec.getLsbD_and, BitVec.getLsbD_xor, BitVec.getLsbD_and, BitVec.getLsbD_and]
  have h0 : (0#8).getLsbD i = false := by simp
  rw [h0] at hi2
  revert hi2
  generalize a.getLsbD i = p; generalize b.getLsbD i = q; generalize x.getLsbD i = r; generalize y.getLsbD i = s
  revert p q r s
  decide
theorem byte_part8 (x y a b : UInt8) (h : a &&& b = 0) : (x ^^^ y &&& a) &&& b = x &&& b :=
  UInt8.eq_of_toBitVec_eq (byte_part _ _ _ _ (congrArg UInt8.toBitVec h))
theorem byte_low (x y : UInt8) : (x ^^^ y &&& 7) &&& 248 = x &&& 248 := byte_part8 _ _ _ _ rfl
theorem byte_top (x y : UInt8) : (x ^^^ y &&& 128) &&& 127 = x &&& 127 := byte_part8 _ _ _ _ rfl
theorem byte_or (x : UInt8) : x &&& 127 ||| 64 = x &&& 63 ||| 64 := by
  refine UInt8.eq_of_toBitVec_eq (BitVec.eq_of_getLsbD_eq fun i hi => ?_)
  show ((x.toBitVec &&& 127#8) ||| 64#8).getLsbD i = ((x.toBitVec &&& 63#8) ||| 64#8).getLsbD i
  rw [BitVec.getLsbD_or, BitVec.getLsbD_or, BitVec.getLsbD_and, BitVec.getLsbD_and]
  generalize x.toBitVec.getLsbD i = r
  revert r
  rcases (show i = 0 ∨ i = 1 ∨ i = 2 ∨ i = 3 ∨ i = 4 ∨ i = 5 ∨ i = 6 ∨ i = 7 by omega) with rfl | rfl | rfl | rfl | rfl | rfl | rfl | rfl <;> decide
theorem byte_high (x y : UInt8) : (x ^^^ y &&& 192) &&& 127 ||| 64 = x &&& 127 ||| 64 := by
  rw [byte_or, byte_or, byte_part8 _ _ _ _ rfl]
theorem clampL_same (l : List UInt8) (hl : l.length = 32) (x y : UInt8) : clampL ((l.set 0 (l.getD 0 0 ^^^ x &&& 7)).set 31 (l.getD 31 0 ^^^ y &&& 192)) = clampL l := by
  obtain ⟨a, k, rfl⟩ : ∃ a k, l = a :: k := by
    cases l with
    | nil => cases hl
    | cons a k => exact ⟨a, k, rfl⟩
  have hk : k.length = 31 := by simpa using hl
  have e1 : (k.set 30 (k.getD 30 0 ^^^ y &&& 192)).getD 30 0 = k.getD 30 0 ^^^ y &&& 192 := by
    simp [List.getD_eq_getElem?_getD, hk]
  simp only [clampL, List.getD_cons_zero, List.getD_cons_succ, List.set_cons_zero, List.set_cons_succ, e1, byte_low, byte_high, List.set_set]
theorem maskL_same (l : List UInt8) (hl : l.length = 32) (x : UInt8) : maskL (l.set 31 (l.getD 31 0 ^^^ x &&& 128)) = maskL l := by
  have e1 : (l.set 31 (l.getD 31 0 ^^^ x &&& 128)).getD 31 0 = l.getD 31 0 ^^^ x &&& 128 := by
    simp [List.getD_eq_getElem?_getD, hl]
  simp only [maskL, e1, byte_top, List.set_set]
theorem shareF_same (s p t r : List UInt8) (h1 : clampL t = clampL s) (h2 : maskL r = maskL p) : shareF t r = shareF s p := by
  rw [shareF, shareF, ladF, ladF, pubF, pubF, h1, h2]

/-- The ladder reckoned: each number once. -/
def once {α : Type} (x : Nat) (f : Nat → α) : α := Nat.rec (f 0) (fun n _ => f (n + 1)) x
theorem once_eq {α : Type} (x : Nat) (f : Nat → α) : once x f = f x := by cases x <;> rfl
def ladQ (u a b c d : Nat) : List Nat → Nat × Nat
  | [] => (a, b)
  | n :: r =>
    once (if n = 1 then c else a) fun a1 => once (if n = 1 then d else b) fun b1 => once (if n = 1 then a else c) fun c1 => once (if n = 1 then b else d) fun d1 =>
    once (addF a1 b1) fun m => once (subF a1 b1) fun l => once (mulF m m) fun o => once (mulF l l) fun q => once (subF o q) fun rr =>
    once (mulF (subF c1 d1) m) fun s => once (mulF (addF c1 d1) l) fun t => once (addF t s) fun x => once (subF t s) fun y =>
    once (mulF x x) fun c2 => once (mulF u (mulF y y)) fun d2 => once (mulF o q) fun a2 => once (mulF rr (addF o (mulF 121665 rr))) fun b2 =>
    if n = 1 then ladQ u c2 d2 a2 b2 r else ladQ u a2 b2 c2 d2 r
def bitsFrom (l : List UInt8) : Nat → List Nat
  | 0 => []
  | n + 1 => bitL l n :: bitsFrom l n
theorem ladQ_step (u n : Nat) (q : Rung) (r : List Nat) : ladQ u q.a q.b q.c q.d (n :: r) = ladQ u (rungStep u n q).a (rungStep u n q).b (rungStep u n q).c (rungStep u n q).d r := by
  rw [ladQ]
  simp only [once_eq]
  by_cases h : n = 1
  · subst h
    simp only [if_true]
    rfl
  · simp only [if_neg h]
    simp only [rungStep, Rung.turn, if_neg h]
    rfl
theorem ladQ_eq (u : Nat) (l : List UInt8) : ∀ k n, n + k = 255 → ladQ u (ladN u l n).a (ladN u l n).b (ladN u l n).c (ladN u l n).d (bitsFrom l k) = ((ladN u l 255).a, (ladN u l 255).b)
  | 0, n, h => by rw [show n = 255 by omega]; rfl
  | k + 1, n, h => by
    rw [bitsFrom, ladQ_step]
    have e : rungStep u (bitL l k) (ladN u l n) = ladN u l (n + 1) := by rw [ladN, show 254 - n = k by omega]
    rw [e]
    exact ladQ_eq u l k (n + 1) (by omega)
theorem share_reckoned (s p : List UInt8) : shareF s p = (fun q : Nat × Nat => mulF q.1 (pwQ q.2 (pF - 2) 256)) (ladQ (pubF p) 1 0 (pubF p) 1 (bitsFrom (clampL s) 255)) := by
  have h := ladQ_eq (pubF p) (clampL s) 255 0 rfl
  rw [show ladQ (pubF p) 1 0 (pubF p) 1 (bitsFrom (clampL s) 255) = _ from h]
  show mulF _ (powF _ _) = _
  rw [powF_reckoned _ _ (by decide)]
  rfl
theorem example_public : (shareL (List.replicate 32 17) nineL).take 4 = [123, 78, 144, 155] := by
  rw [shareL, share_reckoned]
  decide +kernel
theorem example_none : shareF (List.replicate 32 1) (List.replicate 32 0) = 0 := by
  rw [share_reckoned]
  decide +kernel
theorem example_some : shareF (List.replicate 32 17) nineL ≠ 0 := by
  intro h
  have e := example_public
  rw [shareL, h] at e
  revert e
  decide
end Go.Proofs.YtnodllkfmdhhlaaDoor
