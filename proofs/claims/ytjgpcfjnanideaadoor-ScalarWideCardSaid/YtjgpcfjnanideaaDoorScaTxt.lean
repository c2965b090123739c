/- What the three calls answer: the number of 64 bytes, whether 32 bytes are a number as it is, a product and a sum. No program. -/
import Derived.Test.YtjgpcfjnanideaaDoorScaLimb
namespace Go.Proofs.YtjgpcfjnanideaaDoor
set_option maxRecDepth 100000
set_option linter.unusedSimpArgs false
set_option linter.unusedVariables false

/-- A number's bytes, as a text. -/
def txtN (x : Nat) : ByteArray := ⟨(leF x 32).toArray⟩
theorem txtN_list (x : Nat) : (txtN x).data.toList = leF x 32 := rfl
theorem txtN_size (x : Nat) : (txtN x).size = 32 := leF_length x 32
theorem nV_leF : ∀ (n x : Nat), nV (leF x n) = x % 256 ^ n
  | 0, x => by simp [leF, nV, Nat.mod_one]
  | n + 1, x => by
    have h : leF x (n + 1) = UInt8.ofNat x :: leF (x / 256) n := by
      rw [leF, leF, List.range_succ_eq_map, List.map_cons, List.map_map, Nat.pow_zero, Nat.div_one]
      congr 1
      apply List.map_congr_left
      intro i _
      show UInt8.ofNat (x / 256 ^ (i + 1)) = UInt8.ofNat (x / 256 / 256 ^ i)
      rw [Nat.div_div_eq_div_mul, Nat.pow_succ, Nat.mul_comm 256]
    rw [h, nV, nV_leF n, UInt8.toNat_ofNat', show (256 : Nat) ^ (n + 1) = 256 * 256 ^ n by rw [Nat.pow_succ, Nat.mul_comm], Nat.mod_mul]
theorem nV_inj : ∀ (a b : List UInt8), a.length = b.length → nV a = nV b → a = b
  | [], [], _, _ => rfl
  | x :: a, y :: b, hl, h => by
    rw [nV, nV] at h
    have hx := UInt8.toNat_lt x; have hy := UInt8.toNat_lt y
    have h1 : x = y := UInt8.toNat_inj.1 (by omega)
    rw [h1, nV_inj a b (by simpa using hl) (by omega)]
theorem lF_256 : lF < 256 ^ 32 := by decide
/-- Which bytes are a number as it is. -/
theorem right_same (l : List UInt8) (h : l.length = 32) : (leF (nV l % lF) 32 == l) = decide (nV l < lF) := by
  have hlt : nV l % lF < 256 ^ 32 := Nat.lt_trans (Nat.mod_lt _ lF_pos) lF_256
  have hv := nV_leF 32 (nV l % lF)
  rw [Nat.mod_eq_of_lt hlt] at hv
  rw [Bool.eq_iff_iff, beq_iff_eq, decide_eq_true_eq]
  constructor
  · intro e
    rw [e] at hv
    rw [hv]
    exact Nat.mod_lt _ lF_pos
  · intro e
    refine nV_inj _ _ (by rw [leF_length, h]) ?_
    rw [hv, Nat.mod_eq_of_lt e]

/-- The number of 64 bytes; whether 32 bytes are a number as it is; a product and a sum. -/
def wideX (s : ByteArray) : ByteArray := if s.size = 64 then txtN (nV s.data.toList % lF) else ⟨#[]⟩
def wideE (s : ByteArray) : Int := if s.size = 64 then 0 else 1
def okR (s : ByteArray) : Bool := decide (s.size = 32) && decide (nV s.data.toList < lF)
def okM (a b c : ByteArray) : Prop := a.size = 32 ∧ b.size = 32 ∧ c.size = 32
instance (a b c : ByteArray) : Decidable (okM a b c) := by unfold okM; infer_instance
def maX (a b c : ByteArray) : ByteArray := if okM a b c then txtN ((nV a.data.toList * nV b.data.toList + nV c.data.toList) % lF) else ⟨#[]⟩
def maE (a b c : ByteArray) : Int := if okM a b c then 0 else 1

theorem ma_mod (a b c : Nat) : ((b % lF * a) % lF + c % lF) % lF = (a * b + c) % lF := by
  rw [← Nat.add_mod, Nat.add_mod, Nat.mod_mul_mod, ← Nat.add_mod, Nat.mul_comm b]
end Go.Proofs.YtjgpcfjnanideaaDoor
