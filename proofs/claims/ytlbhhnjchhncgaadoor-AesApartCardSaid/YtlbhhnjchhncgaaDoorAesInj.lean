/- Unlike blocks have unlike blocks under one key. Arithmetic alone. -/
import Derived.Test.YtlbhhnjchhncgaaDoorAesLin
import Derived.Test.YtlbhhnjchhncgaaDoorArr
namespace Go.Proofs.YtlbhhnjchhncgaaDoor
open Go.RowKit
set_option maxRecDepth 100000
set_option linter.unusedSimpArgs false
set_option linter.unusedVariables false

theorem sb_back_all : (List.range 256).all (fun x => sbL.idxOf (sbT x) == x) = true := by decide +kernel
theorem sb_inj (x y : UInt8) (h : sb x = sb y) : x = y := by
  have h1 : sbT x.toNat = sbT y.toNat := by rw [← sb_toNat, ← sb_toNat, h]
  have e1 := List.all_eq_true.1 sb_back_all x.toNat (List.mem_range.2 (UInt8.toNat_lt x))
  have e2 := List.all_eq_true.1 sb_back_all y.toNat (List.mem_range.2 (UInt8.toNat_lt y))
  simp only [beq_iff_eq] at e1 e2
  rw [h1] at e1
  exact UInt8.toNat_inj.1 (e1.symm.trans e2)
theorem dbl8_xor (x y : UInt8) : dbl8 (x ^^^ y) = dbl8 x ^^^ dbl8 y := by
  apply UInt8.toNat_inj.1
  rw [dbl8_toNat, UInt8.toNat_xor, UInt8.toNat_xor, dbl8_toNat, dbl8_toNat, dbl_lin _ _ (UInt8.toNat_lt x) (UInt8.toNat_lt y)]
theorem xor_can (x y : UInt8) : x ^^^ (x ^^^ y) = y := by rw [← UInt8.xor_assoc, UInt8.xor_self, UInt8.zero_xor]
theorem xor_lc (x y z : UInt8) : x ^^^ (y ^^^ z) = y ^^^ (x ^^^ z) := by rw [← UInt8.xor_assoc, UInt8.xor_comm x y, UInt8.xor_assoc]
/-- Mixed twice. -/
theorem mix_twice (a b c d : UInt8) : mxB (mxB a b c d) (mxB b c d a) (mxB c d a b) (mxB d a b c) = dbl8 (dbl8 (a ^^^ c)) ^^^ a := by
  simp only [mxB, dbl8_xor]
  generalize dbl8 (dbl8 a) = a2
  generalize dbl8 (dbl8 b) = b2
  generalize dbl8 (dbl8 c) = c2
  generalize dbl8 a = a1
  generalize dbl8 b = b1
  generalize dbl8 c = c1
  generalize dbl8 d = d1
  simp only [UInt8.xor_assoc, UInt8.xor_comm, xor_lc, xor_can, UInt8.xor_self, UInt8.xor_zero, UInt8.zero_xor]
theorem mxS_at (s : List UInt8) (c r : Nat) (hc : c < 4) (hr : r < 4) : (mxS s).getD (4 * c + r) 0 = mxB (s.getD (4 * c + r) 0) (s.getD (4 * c + (r + 1) % 4) 0) (s.getD (4 * c + (r + 2) % 4) 0) (s.getD (4 * c + (r + 3) % 4) 0) := by
  rw [mxS, range_getD _ _ _ (by omega), show (4 * c + r) / 4 * 4 = 4 * c by omega, show (4 * c + r) % 4 = r by omega]
theorem mxS_two (s : List UInt8) (c r : Nat) (hc : c < 4) (hr : r < 4) : (mxS (mxS s)).getD (4 * c + r) 0 = dbl8 (dbl8 (s.getD (4 * c + r) 0 ^^^ s.getD (4 * c + (r + 2) % 4) 0)) ^^^ s.getD (4 * c + r) 0 := by
  rw [mxS_at _ c r hc hr, mxS_at _ c r hc hr, mxS_at _ c _ hc (Nat.mod_lt _ (by omega)), mxS_at _ c _ hc (Nat.mod_lt _ (by omega)), mxS_at _ c _ hc (Nat.mod_lt _ (by omega))]
  rcases (show r = 0 ∨ r = 1 ∨ r = 2 ∨ r = 3 by omega) with rfl | rfl | rfl | rfl <;> exact mix_twice _ _ _ _
theorem mxS_four (s : List UInt8) (h : s.length = 16) : mxS (mxS (mxS (mxS s))) = s := by
  refine bytes_ext (mxS_length _) h fun i hi => ?_
  obtain ⟨c, r, hc, hr, rfl⟩ : ∃ c r, c < 4 ∧ r < 4 ∧ i = 4 * c + r := ⟨i / 4, i % 4, by omega, by omega, by omega⟩
  rw [mxS_two _ c r hc hr, mxS_two _ c r hc hr, mxS_two _ c _ hc (Nat.mod_lt _ (by omega)), show ((r + 2) % 4 + 2) % 4 = r by omega]
  generalize s.getD (4 * c + r) 0 = x
  generalize s.getD (4 * c + (r + 2) % 4) 0 = y
  simp only [dbl8_xor]
  simp only [UInt8.xor_assoc, UInt8.xor_comm, xor_lc, xor_can, UInt8.xor_self, UInt8.xor_zero, UInt8.zero_xor]
theorem mxS_inj (s t : List UInt8) (hs : s.length = 16) (ht : t.length = 16) (h : mxS s = mxS t) : s = t := by
  rw [← mxS_four s hs, ← mxS_four t ht, h]
theorem shS_inj (s t : List UInt8) (hs : s.length = 16) (ht : t.length = 16) (h : shS s = shS t) : s = t := by
  refine bytes_ext hs ht fun j hj => ?_
  have := congrArg (fun l => l.getD ((j + 12 * (j % 4)) % 16) 0) h
  simp only [shS] at this
  rw [range_getD _ _ _ (Nat.mod_lt _ (by omega)), range_getD _ _ _ (Nat.mod_lt _ (by omega)), show ((j + 12 * (j % 4)) % 16 + 4 * ((j + 12 * (j % 4)) % 16 % 4)) % 16 = j by omega] at this
  exact this
theorem swS_inj (s t : List UInt8) (h : swS s = swS t) : s = t := by
  induction s generalizing t with
  | nil => cases t with
    | nil => rfl
    | cons y r => simp [swS] at h
  | cons x s ih => cases t with
    | nil => simp [swS] at h
    | cons y r =>
      simp only [swS, List.map_cons, List.cons.injEq] at h
      rw [sb_inj x y h.1, ih r h.2]
theorem plS_inj (s t k : List UInt8) (hs : s.length = 16) (ht : t.length = 16) (h : plS s k = plS t k) : s = t := by
  refine bytes_ext hs ht fun i hi => ?_
  have := congrArg (fun l => l.getD i 0) h
  simp only [plS] at this
  rw [range_getD _ _ _ hi, range_getD _ _ _ hi] at this
  have h2 := congrArg (fun x => k.getD i 0 ^^^ x) this
  rwa [UInt8.xor_comm (s.getD i 0), UInt8.xor_comm (t.getD i 0), xor_can, xor_can] at h2
theorem roS_inj (key a b : List UInt8) (ha : a.length = 16) (hb : b.length = 16) : ∀ i, roS key a i = roS key b i → a = b
  | 0, h => plS_inj a b key ha hb h
  | i + 1, h => by
    have h1 := plS_inj _ _ _ (mxS_length _) (mxS_length _) h
    have h2 := mxS_inj _ _ (shS_length _) (shS_length _) h1
    have h3 := shS_inj _ _ (by rw [swS_length, roS_length]) (by rw [swS_length, roS_length]) h2
    exact roS_inj key a b ha hb i (swS_inj _ _ h3)
theorem enL_inj (key a b : List UInt8) (ha : a.length = 16) (hb : b.length = 16) (h : enL key a = enL key b) : a = b := by
  have h1 := plS_inj _ _ _ (shS_length _) (shS_length _) h
  have h3 := shS_inj _ _ (by rw [swS_length, roS_length]) (by rw [swS_length, roS_length]) h1
  exact roS_inj key a b ha hb 9 (swS_inj _ _ h3)
end Go.Proofs.YtlbhhnjchhncgaaDoor
