/- Helpers of the reference's Sum512. -/
import Derived.Test.YthcfolefdalaiaaDoorRefRnd32
import Derived.Test.YthcfolefdalaiaaDoorRun64
import Derived.Test.YthcfolefdalaiaaDoorSum64
namespace Go.Proofs.YthcfolefdalaiaaDoor
open Go.RowKit Go.Sort
set_option maxRecDepth 100000
set_option linter.unusedSimpArgs false
set_option linter.unusedVariables false

theorem info_u64 : (Tryd.prog.info? 48).map (fun i => (i.zero, i.size, i.bytes)) = some (some (.int .u64 0), 1, 8) := by kernel_rfl
/-- Words as cells. -/
def wcells64 (l : List Int) : List Value := l.map (Value.int .u64)
theorem wcells64_length (l : List Int) : (wcells64 l).length = l.length := by simp [wcells64]
theorem wcells64_snoc (l : List Int) (x : Int) : wcells64 l ++ [.int .u64 x] = wcells64 (l ++ [x]) := by simp [wcells64]

/-- What lies where while the blocks are gone through: the constants, the state, the message. -/
structure RInv64 (W3 W : World) (B Hb Sb : Nat) (st : W8) (L : List UInt8) : Prop where
  k : ∀ t, t < 80 → W.cell? ⟨B, t, none⟩ = some (.int .u64 (kf t))
  h : ∀ j, j < 8 → W.cell? ⟨Hb, j, none⟩ = some (.int .u64 (st.at j))
  f : ∀ j, j < 8 → W.frozen? ⟨Hb, j, none⟩ = false
  s : ∀ j x, L[j]? = some x → W.cell? ⟨Sb, j, none⟩ = some (.int .u8 x.toNat)
  but : But Hb W3 W
  lB : B < Hb
  lH : Hb < W3.heap.size
  lS : Sb < W3.heap.size
  ne : Sb ≠ Hb
theorem RInv64.step {W3 W W' : World} {B Hb Sb : Nat} {st : W8} {L : List UInt8} (i : RInv64 W3 W B Hb Sb st L) (hb : Below W3.heap.size W W') : RInv64 W3 W' B Hb Sb st L := by
  have lH := i.lH; have lB := i.lB; have lS := i.lS
  exact ⟨fun t ht => (hb.cell (by simp; omega)).trans (i.k t ht), fun j hj => (hb.cell (by simpa using lH)).trans (i.h j hj), fun j hj => (hb.frozen (by simpa using lH)).trans (i.f j hj), fun j x hj => (hb.cell (by simpa using lS)).trans (i.s j x hj),
   ⟨hb.os.trans i.but.os, hb.tape.trans i.but.tape, hb.output.trans i.but.output, Nat.le_trans i.but.size hb.size, fun k hk hne => (hb.block k hk).trans (i.but.block k hk hne)⟩, lB, lH, lS, i.ne⟩

theorem RInv64.set {W3 W : World} {B Hb Sb : Nat} {st st' : W8} {L : List UInt8} (i : RInv64 W3 W B Hb Sb st L) (k : Nat) (hk : k < 8) (x : Int) (h1 : st'.at k = x) (h2 : ∀ j, j < 8 → j ≠ k → st'.at j = st.at j) : RInv64 W3 (W.setCell ⟨Hb, k, none⟩ (.int .u64 x)) B Hb Sb st' L := by
  have lB := i.lB; have ne := i.ne
  refine ⟨fun t ht => (World.cell?_setCell_far _ _ _ _ (by simp; omega)).trans (i.k t ht), fun j hj => ?_, fun j hj => by rw [World.frozen?_setCell]; exact i.f j hj, fun j y hj => (World.cell?_setCell_far _ _ _ _ (by simpa using ne.symm)).trans (i.s j y hj), i.but.trans (.setCell Hb _ _ _ rfl), lB, i.lH, i.lS, ne⟩
  by_cases hjk : j = k
  · subst hjk
    rw [h1]
    exact World.cell?_setCell_same _ _ _ (i.h j hj)
  · rw [h2 j hj hjk, ← i.h j hj]
    exact World.cell?_setCell_other _ _ _ _ (by first | (simp; done) | (simp; omega) | (intro e; cases e; exact hjk rfl))
def mixT (s t : W8) (k : Nat) : W8 := ⟨if 0 < k then IntKind.u64.wrap (s.a + t.a) else s.a, if 1 < k then IntKind.u64.wrap (s.b + t.b) else s.b, if 2 < k then IntKind.u64.wrap (s.c + t.c) else s.c, if 3 < k then IntKind.u64.wrap (s.d + t.d) else s.d, if 4 < k then IntKind.u64.wrap (s.e + t.e) else s.e, if 5 < k then IntKind.u64.wrap (s.f + t.f) else s.f, if 6 < k then IntKind.u64.wrap (s.g + t.g) else s.g, if 7 < k then IntKind.u64.wrap (s.h + t.h) else s.h⟩
theorem mixT_at (s t : W8) (k : Nat) (hk : k < 8) : (mixT s t (k + 1)).at k = IntKind.u64.wrap (s.at k + t.at k) ∧ (mixT s t k).at k = s.at k ∧ ∀ j, j < 8 → j ≠ k → (mixT s t (k + 1)).at j = (mixT s t k).at j := by
  refine ⟨?_, ?_, fun j hj hne => ?_⟩
  · rcases lt8 hk with rfl | rfl | rfl | rfl | rfl | rfl | rfl | rfl <;> rfl
  · rcases lt8 hk with rfl | rfl | rfl | rfl | rfl | rfl | rfl | rfl <;> rfl
  · rcases lt8 hk with rfl | rfl | rfl | rfl | rfl | rfl | rfl | rfl <;> rcases lt8 hj with rfl | rfl | rfl | rfl | rfl | rfl | rfl | rfl <;> first | exact absurd rfl hne | rfl
/-- The eight words of a round, and the schedule's words, in memory. -/
structure VInv64 (W : World) (E V Wb : Nat) (r : W8) (ws : List Int) : Prop where
  v : ∀ j, j < 8 → W.cell? ⟨V, j, none⟩ = some (.int .u64 (r.at j))
  w : ∀ j, j < 80 → W.cell? ⟨Wb, j, none⟩ = some (.int .u64 (ws.getD j 0))
  lV : E ≤ V
  lW : E ≤ Wb
theorem VInv64.step {W W' : World} {E V Wb : Nat} {r : W8} {ws : List Int} (i : VInv64 W E V Wb r ws) (hb : Below W.heap.size W W') : VInv64 W' E V Wb r ws :=
  ⟨fun j hj => (hb.cell (block_lt_of_cell (i.v j hj))).trans (i.v j hj), fun j hj => (hb.cell (block_lt_of_cell (i.w j hj))).trans (i.w j hj), i.lV, i.lW⟩
theorem VInv64.set {W : World} {E V Wb Hb : Nat} {r : W8} {ws : List Int} (i : VInv64 W E V Wb r ws) (h : Hb < E) (k : Nat) (x : Value) : VInv64 (W.setCell ⟨Hb, k, none⟩ x) E V Wb r ws := by
  have lV := i.lV; have lW := i.lW
  exact ⟨fun j hj => (World.cell?_setCell_far _ _ _ _ (by simp; omega)).trans (i.v j hj), fun j hj => (World.cell?_setCell_far _ _ _ _ (by simp; omega)).trans (i.w j hj), lV, lW⟩

theorem mixT_eight (s t : W8) : mixT s t 8 = add64 s t := rfl
theorem mixT_zero (s t : W8) : mixT s t 0 = s := rfl
/-- The schedule's first words are the block's, and each later one follows. -/
theorem sch64_take (ws : List Int) (h : ws.length = 16) (n : Nat) : ∀ k, k < 16 → (sch64 ws n).take (k + 1) = (sch64 ws n).take k ++ [ws.getD k 0] := fun k hk => by
  have hpre : ∀ n, (sch64 ws n).take 16 = ws := by
    intro n
    induction n with
    | zero => simp [sch64, ← h]
    | succ n ih =>
      rw [sch64, List.take_append, ih, sch64_length _ h, show 16 - (16 + n) = 0 by omega]; simp
  have e : ∀ m, m ≤ 16 → (sch64 ws n).take m = ws.take m := fun m hm => by rw [← hpre n, List.take_take, Nat.min_eq_left hm, hpre n]
  rw [e _ (by omega), e _ (by omega), List.take_succ_eq_append_getElem (by omega)]
  simp [h, hk]
theorem sch64_take2 (ws : List Int) (h : ws.length = 16) (n k : Nat) (h1 : 16 ≤ k) (h2 : k < 16 + n) : (sch64 ws n).take (k + 1) = (sch64 ws n).take k ++ [ext64 ((sch64 ws n).take k) k] := by
  have hpre : ∀ d m, (sch64 ws (m + d)).take (16 + m) = sch64 ws m := by
    intro d
    induction d with
    | zero => intro m; simp [List.take_of_length_le, sch64_length _ h]
    | succ d ih =>
      intro m
      rw [← Nat.add_assoc, sch64, List.take_append, ih, sch64_length _ h, show 16 + m - (16 + (m + d)) = 0 by omega]; simp
  obtain ⟨m, rfl⟩ : ∃ m, k = 16 + m := ⟨k - 16, by omega⟩
  have e1 := hpre (n - m) m
  have e2 := hpre (n - (m + 1)) (m + 1)
  rw [show m + (n - m) = n by omega] at e1
  rw [show m + 1 + (n - (m + 1)) = n by omega] at e2
  rw [e1, show 16 + m + 1 = 16 + (m + 1) by omega, e2, sch64]



/-- The message is whole blocks. -/
theorem pad_blocks128 (n : Nat) : ∃ q, n + (padL 128 16 n).length = 128 * q ∧ 0 < q := by
  refine ⟨(n + (padL 128 16 n).length) / 128, ?_, ?_⟩ <;> simp only [padL, List.length_cons, List.length_append, List.length_replicate, be_length] <;> omega

/-- The number that bytes are, the greatest first. -/
def ldn (l : List UInt8) : Nat := l.foldl (fun v c => v * 256 + c.toNat) 0
theorem ldn_snoc (l : List UInt8) (x : UInt8) : ldn (l ++ [x]) = ldn l * 256 + x.toNat := by simp [ldn]
theorem ldn_lt (l : List UInt8) : ∀ n, n ≤ l.length → ldn (l.take n) < 256 ^ n := by
  intro n
  induction n with
  | zero => intro _; simp [ldn]
  | succ n ih =>
    intro hn
    have h1 := ih (by omega)
    have h2 := UInt8.toNat_lt (l[n]'(by omega))
    rw [List.take_succ_eq_append_getElem (by omega), ldn_snoc, Nat.pow_succ]
    omega
theorem or_shift64 (v c : Nat) (hv : v < 72057594037927936) (hc : c < 256) : bits .or .u64 (IntKind.u64.wrap ((v : Int) * 256)) (IntKind.u64.wrap (c : Int)) = (v : Int) * 256 + c := by
  have e1 : IntKind.u64.wrap ((v : Int) * 256) = (v : Int) * 256 := by simp only [IntKind.wrap]; exact Int.emod_eq_of_lt (by omega) (by show _ < (18446744073709551616 : Int); omega)
  have e2 : IntKind.u64.wrap (c : Int) = (c : Int) := by simp only [IntKind.wrap]; exact Int.emod_eq_of_lt (by omega) (by show _ < (18446744073709551616 : Int); omega)
  rw [e1, e2]
  go_bits2
theorem ld64_take (l : List UInt8) : ∀ n, n ≤ l.length → n ≤ 8 → ld64 (l.take n) = (ldn (l.take n) : Int) := by
  intro n
  induction n with
  | zero => intro _ _; simp [ldn, ld64]
  | succ n ih =>
    intro hn h8
    have h1 := ih (by omega) (by omega)
    have h2 := UInt8.toNat_lt (l[n]'(by omega))
    have h3 := ldn_lt l n (by omega)
    have h4 : 256 ^ n ≤ 256 ^ 7 := Nat.pow_le_pow_right (by omega) (by omega)
    rw [List.take_succ_eq_append_getElem (by omega), ldn_snoc]
    have e : ld64 (l.take n ++ [l[n]'(by omega)]) = bits .or .u64 (IntKind.u64.wrap (ld64 (l.take n) * 256)) (IntKind.u64.wrap ((l[n]'(by omega)).toNat : Int)) := by rw [ld64, List.foldl_append]; rfl
    rw [e, h1, or_shift64 _ _ (by omega) h2]
    simp
/-- Eight bytes of a block. -/
def eight (L : List UInt8) (a k : Nat) : List UInt8 := (((L.drop a).take 128).drop (k * 8)).take 8
theorem eight_length (L : List UInt8) (a k : Nat) (hk : k < 16) (h : a + 128 ≤ L.length) : (eight L a k).length = 8 := by
  simp only [eight, List.length_take, List.length_drop]; omega
theorem eight_at (L : List UInt8) (a k n : Nat) (hk : k < 16) (hn : n < 8) (h : a + 128 ≤ L.length) : ∃ x, L[a + 8 * k + n]? = some x ∧ (eight L a k).take (n + 1) = (eight L a k).take n ++ [x] := by
  have hl := eight_length L a k hk h
  refine ⟨(eight L a k)[n]'(by omega), ?_, List.take_succ_eq_append_getElem (by omega)⟩
  rw [← List.getElem?_eq_getElem, eight, List.getElem?_take, if_pos hn, List.getElem?_drop, List.getElem?_take, if_pos (by omega), List.getElem?_drop]
  congr 1; omega
theorem eight_word (L : List UInt8) (a k : Nat) (hk : k < 16) (h : a + 128 ≤ L.length) : (wds64 ((L.drop a).take 128)).getD k 0 = (ldn ((eight L a k).take 8) : Int) := by
  have hl := eight_length L a k hk h
  rw [← ld64_take (eight L a k) 8 (by omega) (by omega), List.take_of_length_le (show (eight L a k).length ≤ 8 by omega), wds64, List.getD_eq_getElem?_getD, List.getElem?_map, List.getElem?_range (by omega)]
  rfl
noncomputable def bodyT (i : Nat) : Code := (loopsOf (Tryd.f14.body.getD .skip)).getD i .skip
end Go.Proofs.YthcfolefdalaiaaDoor
