/- The reference's point: a struct of four slices of digits; Zero, factor, double; The reference's sum of two points; The reference's Add and Neg; The reference's Mul; The reference's Bytes of a point; The reference's point of bytes; The reference's base point; what its calls answer for any texts. -/
import Derived.Test.YtcpnenjmbajbeaaDoorPtA
import Derived.Test.YtcpnenjmbajbeaaDoorFldR
import Derived.Test.YtcpnenjmbajbeaaDoorToldG
import Derived.Test.YtcpnenjmbajbeaaDoorConvS
namespace Go.Proofs.YtcpnenjmbajbeaaDoor
section
open Go.RowKit Go.Sort
set_option maxRecDepth 100000
set_option linter.unusedSimpArgs false
set_option linter.unusedVariables false

/-- A value that is a number's digits. -/
def tDig (x : Nat) : Told := ⟨fun w v => DigAt w v (digN x), fun _ _ _ hb h => h.step hb⟩
/-- A point's four slices. -/
def PtAt (w : World) (v : Value) (p : PtN) : Prop := ∃ vx vy vz vt, v = .agg #[vx, vy, vz, vt] ∧ DigAt w vx (digN p.x) ∧ DigAt w vy (digN p.y) ∧ DigAt w vz (digN p.z) ∧ DigAt w vt (digN p.t)
theorem PtAt.step {w w' : World} {v : Value} {p : PtN} (h : PtAt w v p) (hb : Below w.heap.size w w') : PtAt w' v p := by
  obtain ⟨vx, vy, vz, vt, rfl, h1, h2, h3, h4⟩ := h
  exact ⟨vx, vy, vz, vt, rfl, h1.step hb, h2.step hb, h3.step hb, h4.step hb⟩
def tPt (p : PtN) : Told := ⟨fun w v => PtAt w v p, fun _ _ _ hb h => h.step hb⟩
theorem DigAt.slice {w : World} {v : Value} {l : List Nat} (h : DigAt w v l) : ∃ D cap, v = .slice (some ⟨D, 0, none⟩) 16 cap := by
  obtain ⟨D, cap, h, _⟩ := h
  exact ⟨D, cap, h⟩
/-- A point that is laid in its block changes no digits. -/
theorem DigAt.rowed {W : World} {v : Value} {l : List Nat} {B : Nat} {row : Array Value} {T : TypeId} {fr : Nat × Nat} (h : DigAt W v l) (hB : W.heap[B]? = some (.cells row T fr)) (h0 : ∃ a n c, row[0]? = some (.slice a n c)) (new : Array Value) : DigAt (W.setRow B new) v l := by
  obtain ⟨D, cap, rfl, hc⟩ := h
  obtain ⟨a, n, c, h0⟩ := h0
  have hne : D ≠ B := by
    rintro rfl
    have h1 := hc 0 (by decide)
    rw [cell_of_row _ _ _ _ _ _ hB, h0] at h1
    cases h1
  exact ⟨D, cap, rfl, fun j hj => (World.cell?_of_block (a := ⟨D, j, none⟩) (setRow_other _ _ _ _ hne)).trans (hc j hj)⟩
theorem PtAt.rowed {W : World} {v : Value} {p : PtN} {B : Nat} {row : Array Value} {T : TypeId} {fr : Nat × Nat} (h : PtAt W v p) (hB : W.heap[B]? = some (.cells row T fr)) (h0 : ∃ a n c, row[0]? = some (.slice a n c)) (new : Array Value) : PtAt (W.setRow B new) v p := by
  obtain ⟨vx, vy, vz, vt, rfl, h1, h2, h3, h4⟩ := h
  exact ⟨vx, vy, vz, vt, rfl, h1.rowed hB h0 new, h2.rowed hB h0 new, h3.rowed hB h0 new, h4.rowed hB h0 new⟩
def nilS : Value := .slice none 0 0
def zeroR : Array Value := #[nilS, nilS, nilS, nilS]
theorem zeroR_size (a b c d : Value) : zeroR.size = (#[a, b, c, d] : Array Value).size := rfl
theorem sliceR_one {w : World} {a b c d : Value} {k l m n : List Nat} (ha : DigAt w a k) (hb : DigAt w b l) (hc : DigAt w c m) (hd : DigAt w d n) : (#[a, b, c, d] : Array Value).all (·.oneCell') = true := by
  obtain ⟨A, ca, rfl⟩ := ha.slice
  obtain ⟨B, cb, rfl⟩ := hb.slice
  obtain ⟨C, cc, rfl⟩ := hc.slice
  obtain ⟨D, cd, rfl⟩ := hd.slice
  simp [Value.oneCell']
theorem small_one : smallF 1 = 1 := smallF_pos 1 (by decide)
theorem digOf {P : Program} {f : Nat} {args : Array Value} {w : World} {x : Nat} (h : Calls P f args w fun e w' => (∃ d', e = .returned d' ∧ DigAt w' d' (digN x)) ∧ Below w.heap.size w w') : Calls P f args w (fun e w'' => ∃ v, e = .returned v ∧ (tDig x).T w'' v ∧ Below w.heap.size w w'') :=
  h.mono fun e w'' ⟨⟨d', h1, h2⟩, h3⟩ => ⟨d', h1, h2, h3⟩




end

section
open Go.RowKit Go.Sort
set_option maxRecDepth 100000
set_option linter.unusedSimpArgs false
set_option linter.unusedVariables false

end

section
open Go.RowKit Go.Sort
set_option maxRecDepth 100000
set_option linter.unusedSimpArgs false
set_option linter.unusedVariables false

theorem told_of_sQuiet {P : Program} {w : World} {v : Value} {r : Result Next} (h : sQuiet P w v r) : toldQuiet P w (Told.val v) r := by
  cases r with
  | ok n w' =>
    cases n <;> simp only [sQuiet] at h <;> simp only [toldQuiet]
    case value u => obtain ⟨rfl, rfl⟩ := h; exact ⟨Below.refl _ _, rfl⟩
    case enter f args =>
      obtain ⟨rfl, hc⟩ := h
      exact ⟨rfl, hc.mono fun e w'' ⟨he, hb⟩ => ⟨v, he, rfl, hb⟩⟩
  | halt x w' => simp only [sQuiet] at h
theorem told_build {P : Program} {o : Oper} {a : Act} {w : World} {t : Told} {T : TypeId} {parts : Array (Nat × Operand)} {cells : Array Value} (ho : o.op = .build T parts) (hb : (Instr.build T (parts.map fun (i, x) => (i, a.eval x))).run P w = .ok (.agg cells) w) (hT : t.T w (.agg cells)) : toldQuiet P w t ((execOp a.eval o).run P w) := by
  unfold execOp
  simp only [ho, Sem.run_bind, hb, Result.andThen_ok]
  exact ⟨Below.refl _ _, hT⟩
theorem ptOf {P : Program} {f : Nat} {args : Array Value} {w : World} {p : PtN} (h : Calls P f args w fun e w' => (∃ d', e = .returned d' ∧ PtAt w' d' p) ∧ Below w.heap.size w w') : Calls P f args w (fun e w'' => ∃ v, e = .returned v ∧ (tPt p).T w'' v ∧ Below w.heap.size w w'') :=
  h.mono fun e w'' ⟨⟨d', h1, h2⟩, h3⟩ => ⟨d', h1, h2, h3⟩
theorem PtAt.one {w : World} {a b c d : Value} {p : PtN} (h : PtAt w (.agg #[a, b, c, d]) p) : (#[a, b, c, d] : Array Value).all (·.oneCell') = true := by
  obtain ⟨vx, vy, vz, vt, he, h1, h2, h3, h4⟩ := h
  injection he with he
  injection he with he
  simp only [List.cons.injEq, and_true] at he
  obtain ⟨rfl, rfl, rfl, rfl⟩ := he
  exact sliceR_one h1 h2 h3 h4
theorem PtAt.first {w : World} {a b c d : Value} {p : PtN} (h : PtAt w (.agg #[a, b, c, d]) p) : ∃ x n e, (#[a, b, c, d] : Array Value)[0]? = some (.slice x n e) := by
  obtain ⟨vx, vy, vz, vt, he, h1, h2, h3, h4⟩ := h
  injection he with he
  injection he with he
  simp only [List.cons.injEq, and_true] at he
  obtain ⟨rfl, rfl, rfl, rfl⟩ := he
  obtain ⟨D, cap, rfl⟩ := h1.slice
  exact ⟨_, _, _, rfl⟩
theorem PtAt.four {w : World} {v : Value} {p : PtN} (h : PtAt w v p) : ∃ a b c d, v = .agg #[a, b, c, d] := by
  obtain ⟨vx, vy, vz, vt, rfl, _⟩ := h
  exact ⟨_, _, _, _, rfl⟩


end

section
open Go.RowKit Go.Sort
set_option maxRecDepth 100000
set_option linter.unusedSimpArgs false
set_option linter.unusedVariables false

theorem and_1p (y : Nat) (h : y < 256) : bits .and .u8 (y : Int) 1 = ((y % 2 : Nat) : Int) := by
  have h1 : (BitVec.ofInt 8 1).toNat = 2 ^ 1 - 1 := by decide
  have key : (BitVec.ofInt 8 (y : Int) &&& BitVec.ofInt 8 1).toNat = ((y : Int) % ((2 ^ 8 : Nat) : Int)).toNat % 2 ^ 1 := by
    rw [BitVec.toNat_and, BitVec.toNat_ofInt, h1, Nat.and_two_pow_sub_one_eq_mod]
  show IntKind.u8.wrap ((BitVec.ofInt 8 (y : Int) &&& BitVec.ofInt 8 1).toNat : Nat) = _
  rw [key, IntKind.wrap_u8]
  omega
theorem bitP_u8 (l : List UInt8) (i : Nat) : bits .and .u8 (((l.getD (i / 8) 0).toNat : Int) / 2 ^ (i % 8)) 1 = ((bitP l i : Nat) : Int) := by
  have h : (((l.getD (i / 8) 0).toNat : Int) / 2 ^ (i % 8)) = (((l.getD (i / 8) 0).toNat / 2 ^ (i % 8) : Nat) : Int) := by simp
  rw [h, and_1p _ (Nat.lt_of_le_of_lt (Nat.div_le_self _ _) (UInt8.toNat_lt _))]
  rfl


end

section
open Go.RowKit Go.Sort
set_option maxRecDepth 100000
set_option linter.unusedSimpArgs false
set_option linter.unusedVariables false

theorem or_bit7 (b : UInt8) (n : Nat) (hb : b.toNat < 128) (hn : n < 2) : bits .or .u8 (b.toNat : Int) ((n : Int) * 128) = ((b.toNat + 128 * n : Nat) : Int) := by
  have e1 : (BitVec.ofInt 8 (b.toNat : Int)).toNat = b.toNat := by rw [BitVec.toNat_ofInt]; omega
  have e2 : (BitVec.ofInt 8 ((n : Int) * 128)).toNat = 2 ^ 7 * n := by rw [BitVec.toNat_ofInt]; omega
  have h := Nat.two_pow_add_eq_or_of_lt (show b.toNat < 2 ^ 7 by omega) n
  show IntKind.u8.wrap (((BitVec.ofInt 8 (b.toNat : Int) ||| BitVec.ofInt 8 ((n : Int) * 128)).toNat : Nat) : Int) = _
  rw [BitVec.toNat_or, e1, e2, Nat.or_comm, ← h, IntKind.wrap_u8]
  omega
/-- The last byte, with one more bit. -/
theorem leF_top (y n : Nat) (hy : y < 57896044618658097711785492504343953926634992332820282019728792003956564819968) (hn : n < 2) : ((leF y 32).getD 31 0).toNat < 128 ∧ (leF y 32).set 31 (UInt8.ofNat (((leF y 32).getD 31 0).toNat + 128 * n)) = leF (y + n * 57896044618658097711785492504343953926634992332820282019728792003956564819968) 32 := by
  have e31 : (256 : Nat) ^ 31 = 452312848583266388373324160190187140051835877600158453279131187530910662656 := by decide
  have hg : ((leF y 32).getD 31 0).toNat = y / 256 ^ 31 := by
    rw [leF_get _ _ _ (by decide), UInt8.toNat_ofNat', e31]
    omega
  constructor
  · rw [hg, e31]; omega
  · rw [hg]
    apply List.ext_getElem (by rw [List.length_set, leF_length, leF_length])
    intro i h1 h2
    rw [leF_length] at h2
    simp only [leF, List.getElem_set, List.getElem_map, List.getElem_range]
    by_cases h31 : 31 = i
    · subst h31
      rw [if_pos rfl]
      apply UInt8.toNat_inj.1
      rw [UInt8.toNat_ofNat', UInt8.toNat_ofNat', e31]
      omega
    · rw [if_neg h31]
      apply UInt8.toNat_inj.1
      rw [UInt8.toNat_ofNat', UInt8.toNat_ofNat']
      have hd : 57896044618658097711785492504343953926634992332820282019728792003956564819968 = 256 ^ i * (256 * (256 ^ (30 - i) * 128)) := by
        rw [show 256 ^ i * (256 * (256 ^ (30 - i) * 128)) = 256 ^ i * 256 * 256 ^ (30 - i) * 128 by simp only [Nat.mul_assoc], ← Nat.pow_succ, ← Nat.pow_add, show i + 1 + (30 - i) = 31 by omega, e31]
      rw [hd, Nat.mul_left_comm n, Nat.add_mul_div_left _ _ (Nat.pow_pos (by decide)), Nat.mul_left_comm n, Nat.add_mul_mod_self_left]

end

section
open Go.RowKit Go.Sort
set_option maxRecDepth 100000
set_option linter.unusedSimpArgs false
set_option linter.unusedVariables false

theorem and_127 (b : UInt8) : bits .and .u8 (b.toNat : Int) 127 = ((b.toNat % 128 : Nat) : Int) := by
  have h1 : (BitVec.ofInt 8 127).toNat = 2 ^ 7 - 1 := by decide
  have key : (BitVec.ofInt 8 (b.toNat : Int) &&& BitVec.ofInt 8 127).toNat = ((b.toNat : Int) % ((2 ^ 8 : Nat) : Int)).toNat % 2 ^ 7 := by
    rw [BitVec.toNat_and, BitVec.toNat_ofInt, h1, Nat.and_two_pow_sub_one_eq_mod]
  have hb := UInt8.toNat_lt b
  show IntKind.u8.wrap ((BitVec.ofInt 8 (b.toNat : Int) &&& BitVec.ofInt 8 127).toNat : Nat) = _
  rw [key, IntKind.wrap_u8]
  omega
/-- A block that was made, and the slice of it. -/
def tBlk (n c : Nat) (ob : Obj) : Told := ⟨fun w u => ∃ g, u = mkS n c g ∧ w.heap[g]? = some ob, fun w w' v hb ⟨g, h1, h2⟩ => ⟨g, h1, blk_below hb (blk_lt h2) h2⟩⟩
def oneB (c : UInt8) : Obj := .cells (bcells [c]) 5
theorem ofL_text (s : ByteArray) (h : s.size = 32) : s.extract 0 31 ++ ⟨#[UInt8.ofNat ((s.data.toList.getD 31 0).toNat % 128)]⟩ = ⟨(lowL s.data.toList).toArray⟩ := by
  apply ByteArray.ext
  apply Array.toList_inj.1
  rw [ByteArray.data_append, Array.toList_append, Lib.extract_data]
  rfl


end

section
open Go.RowKit Go.Sort
set_option maxRecDepth 100000
set_option linter.unusedSimpArgs false
set_option linter.unusedVariables false


end
end Go.Proofs.YtcpnenjmbajbeaaDoor
