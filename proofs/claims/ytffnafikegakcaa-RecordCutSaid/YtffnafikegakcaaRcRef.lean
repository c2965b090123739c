/- The reference's reader of records: Feed, wrong, Next. -/
import Derived.Test.YtffnafikegakcaaRcNext
namespace Go.Proofs.Ytffnafikegakcaa
open Go.RowKit Go.Sort
set_option maxRecDepth 100000
set_option linter.unusedSimpArgs false
set_option linter.unusedVariables false

/-- Block b holds a reference's reader that stands so. -/
def RrAt (w : World) (b : Nat) (st : RSt) : Prop :=
  ∃ S : ByteArray, w.heap[b]? = some (.cells #[.string S, .int .i64 st.err] 33) ∧ (st.err = 0 → S.data.toList = st.buf)
theorem RrAt.lt {w : World} {b : Nat} {st : RSt} (h : RrAt w b st) : b < w.heap.size := by
  obtain ⟨v, hg, _⟩ := h; exact blk_lt hg
theorem RrAt.keep {w w' : World} {b : Nat} {st : RSt} (h : RrAt w b st) (e : w'.heap[b]? = w.heap[b]?) : RrAt w' b st := by
  obtain ⟨v, hg, hb⟩ := h
  exact ⟨v, e.trans hg, hb⟩
theorem RrAt.below {w w' : World} {b : Nat} {st : RSt} (h : RrAt w b st) (hb : Below w.heap.size w w') : RrAt w' b st := h.keep (hb.block b h.lt)
theorem rr_cells {w : World} {b : Nat} {v u : Value} (h : w.heap[b]? = some (.cells #[v, u] 33)) : w.cell? ⟨b, 0, none⟩ = some v ∧ w.cell? ⟨b, 1, none⟩ = some u ∧ w.frozen? ⟨b, 0, none⟩ = false ∧ w.frozen? ⟨b, 1, none⟩ = false := by
  refine ⟨?_, ?_, frozen_of_row w _ _ _ _ h, frozen_of_row w _ _ _ _ h⟩ <;> rw [cell_of_row w _ _ _ _ _ h] <;> rfl
theorem rr_set0 {w : World} {b : Nat} {v u : Value} (x : Value) (h : w.heap[b]? = some (.cells #[v, u] 33)) : (w.setCell ⟨b, 0, none⟩ x).heap[b]? = some (.cells #[x, u] 33) := heap_setCell_same _ _ _ _ _ _ h
theorem rr_set1 {w : World} {b : Nat} {v u : Value} (x : Value) (h : w.heap[b]? = some (.cells #[v, u] 33)) : (w.setCell ⟨b, 1, none⟩ x).heap[b]? = some (.cells #[v, x] 33) := heap_setCell_same _ _ _ _ _ _ h

theorem ext_from (s : ByteArray) (k : Nat) : s.extract k s.size = ⟨(s.data.toList.drop k).toArray⟩ := by rw [Lib.extract_eq, Lib.size_eq, List.take_of_length_le (by simp)]
set_option maxHeartbeats 2000000 in
theorem rfeed_any (b : Nat) (st : RSt) (d : ByteArray) (w : World) (h : RrAt w b st) (hm : st.buf.length ≤ 1048576) (hd : d.size ≤ 1048576) :
    Calls Try.prog 11 #[.pointer (some ⟨b, 0, none⟩), .string d] w fun e w' => e = .returned (.int .i64 (feedE st d)) ∧ RrAt w' b (feedS st d) ∧ But b w w' := by
  have HR := Lib.hid h
  obtain ⟨S, hg, hbuf⟩ := h
  obtain ⟨c0, c1, f0, f1⟩ := rr_cells hg
  by_cases h0 : st.err = 0
  · have hS := hbuf h0
    have hSl : S.size = st.buf.length := by rw [Lib.size_eq, hS]
    have d0 : (st.err != 0) = false := by simp [h0]
    by_cases h1 : 1048576 < st.buf.length + d.size
    · have e : feedE st d = 13 := by rw [feedE, if_neg (by rw [h0]; decide), if_pos h1]
      have es : feedS st d = st := by rw [feedS, if_neg (by rw [e]; decide)]
      have d1 : decide ((1048576 : Int) < (S.size : Int) + (d.size : Int)) = true := by simp; omega
      have hSb : S.size ≤ 1048576 := by omega
      rw [e, es]
      clear hbuf hg h0 h1 e es hS hSl hm
      go_enter Try.func11, Try.ntmps11
      go_wp2_with fail
      go_ret
      exact ⟨rfl, HR.out, .refl _ _⟩
    · have e : feedE st d = 0 := by rw [feedE, if_neg (by rw [h0]; decide), if_neg h1]
      have es : feedS st d = ⟨st.buf ++ d.data.toList, 0⟩ := by rw [feedS, if_pos e]
      have d1 : decide ((1048576 : Int) < (S.size : Int) + (d.size : Int)) = false := by simp; omega
      have hSb : S.size ≤ 1048576 := by omega
      have k1 : S.size + d.size ≤ 9223372036854775807 := by omega
      rw [e, es]
      have HF := Lib.hid (show RrAt (w.setCell ⟨b, 0, none⟩ (.string (S ++ d))) b ⟨st.buf ++ d.data.toList, 0⟩ ∧ But b w (w.setCell ⟨b, 0, none⟩ (.string (S ++ d))) from
        ⟨⟨_, by rw [← h0]; exact rr_set0 _ hg, fun _ => by rw [← hS]; simp⟩, .setCell b w _ _ rfl⟩)
      clear hbuf hg h0 h1 e es hS hSl hm
      go_enter Try.func11, Try.ntmps11
      go_wp2_with fail
      go_ret
      exact ⟨rfl, HF.out.1, HF.out.2⟩
  · have e : feedE st d = st.err := by rw [feedE, if_pos h0]
    have es : feedS st d = st := by rw [feedS, if_neg (by rw [e]; exact h0)]
    have d0 : (st.err != 0) = true := by simp [h0]
    rw [e, es]
    clear hbuf hg h0 e es
    generalize st.err = er at *
    go_enter Try.func11, Try.ntmps11
    go_wp2_with fail
    go_ret
    exact ⟨rfl, HR.out, .refl _ _⟩

theorem rwrong_any (b : Nat) (er : Int) (S : ByteArray) (er0 : Int) (w : World) (hg : w.heap[b]? = some (.cells #[.string S, .int .i64 er0] 33)) :
    Calls Try.prog 19 #[.pointer (some ⟨b, 0, none⟩), .int .i64 er] w fun e w' => e = .returned (.tuple #[.int .i64 0, .string emB, .int .i64 er]) ∧ w.setCell ⟨b, 1, none⟩ (.int .i64 er) = w' := by
  obtain ⟨c0, c1, f0, f1⟩ := rr_cells hg
  clear hg
  go_enter Try.func19, Try.ntmps19
  go_wp2_with fail
  go_ret3
  exact ⟨rfl, rfl⟩

set_option maxHeartbeats 8000000 in
theorem rnext_any (b : Nat) (st : RSt) (w : World) (h : RrAt w b st) (hm : st.buf.length ≤ 1048576) :
    Calls Try.prog 13 #[.pointer (some ⟨b, 0, none⟩)] w fun e w' => e = nextA st ∧ RrAt w' b (nextS st) ∧ But b w w' := by
  have HR := Lib.hid h
  obtain ⟨S, hg, hbuf⟩ := h
  obtain ⟨c0, c1, f0, f1⟩ := rr_cells hg
  by_cases h0 : st.err = 0
  case neg =>
    obtain ⟨e1, e2⟩ := next_err st h0
    have d0 : (st.err != 0) = true := by simp [h0]
    rw [e1, e2]
    clear hbuf hg h0 e1 e2
    generalize st.err = er at *
    go_enter Try.func13, Try.ntmps13
    go_wp2_with fail
    go_quiet (fail)
    go_wp2_with fail
    go_ret3
    have hbd := below_drewN (Below.refl w.heap.size w) nq
    exact ⟨rfl, HR.out.below hbd, .of_below hbd⟩
  have hS := hbuf h0
  have d0 : (st.err != 0) = false := by simp [h0]
  rw [next_ok st h0]
  have HNX : Hid (nextS st = if nxE st.buf = 0 then ⟨st.buf.drop (5 + szR st.buf), 0⟩ else if nxE st.buf = 33 then st else ⟨[], nxE st.buf⟩) := Lib.hid (by rw [nextS, if_neg (by rw [h0]; decide)])
  rw [← hS] at HNX hm ⊢
  have HG := Lib.hid hg
  have H0 := Lib.hid h0
  have BUSY : Hid (nxE S.data.toList = 33 → nextS st = st) := Lib.hid (fun e => by rw [HNX.out, e, if_neg (by decide), if_pos rfl])
  have BAD : Hid (∀ er, nxE S.data.toList = er → er ≠ 0 → er ≠ 33 → RrAt (w.setCell ⟨b, 1, none⟩ (.int .i64 er)) b (nextS st) ∧ But b w (w.setCell ⟨b, 1, none⟩ (.int .i64 er))) := Lib.hid (fun er e n1 n2 => by
    rw [HNX.out, e, if_neg n1, if_neg n2]
    exact ⟨⟨S, rr_set1 _ hg, fun h => absurd h n1⟩, .setCell b w _ _ rfl⟩)
  have CW := Lib.hid (fun er => rwrong_any b er S st.err w hg)
  have BADN : Hid (∀ q er, nxE S.data.toList = er → er ≠ 0 → er ≠ 33 → RrAt ((w.drewN q).setCell ⟨b, 1, none⟩ (.int .i64 er)) b (nextS st) ∧ But b w ((w.drewN q).setCell ⟨b, 1, none⟩ (.int .i64 er))) := Lib.hid (fun q er e n1 n2 => by
    have hbd := below_drewN (Below.refl w.heap.size w) q
    rw [HNX.out, e, if_neg n1, if_neg n2]
    exact ⟨⟨S, rr_set1 _ (blk_below hbd (blk_lt hg) hg), fun h => absurd h n1⟩, (But.of_below hbd).trans (.setCell b _ _ _ rfl)⟩)
  have CWN := Lib.hid (fun er q => rwrong_any b er S st.err (w.drewN q) (blk_below (below_drewN (Below.refl w.heap.size w) q) (blk_lt hg) hg))
  have GOOD : Hid (nxE S.data.toList = 0 → ∀ q z, z = szR S.data.toList → RrAt ((w.drewN q).setCell ⟨b, 0, none⟩ (.string (S.extract (5 + z) S.size))) b (nextS st) ∧ But b w ((w.drewN q).setCell ⟨b, 0, none⟩ (.string (S.extract (5 + z) S.size)))) := Lib.hid (fun e q z hz => by
    have hbd := below_drewN (Below.refl w.heap.size w) q
    rw [HNX.out, e, if_pos rfl]
    exact ⟨⟨_, by rw [← h0]; exact rr_set0 _ (blk_below hbd (blk_lt hg) hg), fun _ => by rw [ext_from, hz]⟩, (But.of_below hbd).trans (.setCell b _ _ _ rfl)⟩)
  have hn : S.data.toList.length = S.size := (Lib.size_eq S).symm
  rw [hn] at hm
  have CL : Hid (∀ q, (w.drewN q).cell? ⟨b, 0, none⟩ = some (.string S) ∧ (w.drewN q).frozen? ⟨b, 0, none⟩ = false) := Lib.hid (fun q => by
    obtain ⟨a, _, c, _⟩ := rr_cells (blk_below (below_drewN (Below.refl w.heap.size w) q) (blk_lt hg) hg); exact ⟨a, c⟩)
  clear hbuf hg h0 hS HNX
  generalize st.err = er0 at *
  have HL := Lib.hid hn
  clear hn
  obtain ⟨l, hl⟩ : ∃ l, l = S.data.toList := ⟨_, rfl⟩
  rw [← hl] at HL BUSY BAD BADN GOOD ⊢
  have HLL := Lib.hid hl
  clear hl
  by_cases c : S.size = 0
  · have hl0 : l.length = 0 := by rw [HL.out]; exact c
    have HE : Hid (nxE l = 33) := Lib.hid (by rw [nxE, if_pos hl0])
    have HA := Lib.hid (ans_bad l 33 HE.out (by decide))
    have d1 : ((S.size : Int) == 0) = true := by rw [c]; rfl
    clear hl0 c
    go_enter Try.func13, Try.ntmps13
    go_wp2_with fail
    go_ret3
    exact ⟨by rw [HA.out]; rfl, by rw [BUSY.out HE.out]; exact HR.out, .refl _ _⟩
  have N0 := Lib.hid (show ¬ l.length = 0 by rw [HL.out]; exact c)
  have z0 : ((S.size : Int) == 0) = false := by rw [beq_eq_false_iff_ne]; omega
  have i0 : 0 < S.size := by omega
  have j0 : (0 : Int) < (S.size : Int) := by omega
  have AT : Hid (∀ j, j < S.size → ∀ W, (Instr.index 9 (.string S) (.int .i64 (j : Int))).run Try.prog W = .ok (.int .u8 ((l.getD j 0).toNat : Int)) W) := Lib.hid (fun j hj W => by rw [HLL.out]; exact at_byte S j hj W)
  have t0 := AT.out 0 i0
  have x0 : IntKind.i64.wrap ((l.getD 0 0).toNat : Int) = ((l.getD 0 0).toNat : Int) := by have := (l.getD 0 0).toNat_lt; rw [IntKind.wrap_i64]; omega
  have CK := Lib.hid (fun W => risKind_any ((l.getD 0 0).toNat : Int) W)
  rw [show (((0 : Nat)) : Int) = 0 from rfl] at t0
  clear c
  cases hk : isK ((l.getD 0 0).toNat : Int) with
  | false =>
    have HE : Hid (nxE l = 11) := Lib.hid (by rw [nxE, if_neg N0.out, if_pos hk])
    have HA := Lib.hid (ans_bad l 11 HE.out (by decide))
    rw [hk] at CK
    obtain ⟨b0, e0⟩ : ∃ b0, ((l.getD 0 0).toNat : Int) = b0 := ⟨_, rfl⟩
    rw [e0] at CK t0 x0
    clear hk e0
    go_enter Try.func13, Try.ntmps13
    go_wp2_with fail
    refine (CK.out w).mono ?_
    rintro e W ⟨rfl, rfl⟩
    go_wp2_with fail
    refine (CW.out 11).mono ?_
    rintro e W ⟨rfl, rfl⟩
    have hf := BAD.out 11 HE.out (by decide) (by decide)
    have HF := Lib.hid hf
    clear hf c0 c1 f0 f1
    go_wp2_with fail
    go_ret3
    exact ⟨by rw [HA.out]; rfl, HF.out.1, HF.out.2⟩
  | true =>
  have N1 := Lib.hid (show ¬ isK ((l.getD 0 0).toNat : Int) = false by rw [hk]; decide)
  rw [hk] at CK
  have E0 : Hid (∃ b0, ((l.getD 0 0).toNat : Int) = b0) := Lib.hid ⟨_, rfl⟩
  obtain ⟨b0, e0⟩ := E0.out
  rw [e0] at CK t0 x0
  replace e0 := Lib.hid e0
  clear hk E0
  by_cases s1 : S.size = 1
  · have hl1 : l.length = 1 := by rw [HL.out]; exact s1
    have HE : Hid (nxE l = 33) := Lib.hid (by rw [nxE, if_neg N0.out, if_neg N1.out, if_neg (by omega), if_neg (by omega), if_pos (by omega)])
    have HA := Lib.hid (ans_bad l 33 HE.out (by decide))
    have d1 : decide ((1 : Int) < (S.size : Int)) = false := by simp; omega
    have d2 : decide ((2 : Int) < (S.size : Int)) = false := by simp; omega
    have d3 : decide ((S.size : Int) < 5) = true := by simp; omega
    clear hl1 s1
    go_enter Try.func13, Try.ntmps13
    go_wp2_with fail
    refine (CK.out w).mono ?_
    rintro e W ⟨rfl, rfl⟩
    go_wp2_with fail
    go_ret3
    exact ⟨by rw [HA.out]; rfl, by rw [BUSY.out HE.out]; exact HR.out, .refl _ _⟩
  have i1 : 1 < S.size := by omega
  have j1 : (1 : Int) < (S.size : Int) := by omega
  have d1 : decide ((1 : Int) < (S.size : Int)) = true := by simp; omega
  have t1 := AT.out 1 i1
  rw [show (((1 : Nat)) : Int) = 1 from rfl] at t1
  clear s1
  by_cases c1 : l.getD 1 0 = 3
  case neg =>
    have HE : Hid (nxE l = 11) := Lib.hid (by rw [nxE, if_neg N0.out, if_neg N1.out, if_pos ⟨by rw [HL.out]; exact i1, c1⟩])
    have HA := Lib.hid (ans_bad l 11 HE.out (by decide))
    have m1 : (((l.getD 1 0).toNat : Int) != 3) = true := by
      simp only [bne_iff_ne]; intro h; exact c1 (UInt8.toNat_inj.1 (by show (l.getD 1 0).toNat = 3; omega))
    obtain ⟨b1, e1⟩ : ∃ b1, ((l.getD 1 0).toNat : Int) = b1 := ⟨_, rfl⟩
    rw [e1] at t1 m1
    clear e1 c1
    go_enter Try.func13, Try.ntmps13
    go_wp2_with fail
    refine (CK.out w).mono ?_
    rintro e W ⟨rfl, rfl⟩
    go_wp2_with fail
    refine (CW.out 11).mono ?_
    rintro e W ⟨rfl, rfl⟩
    have hf := BAD.out 11 HE.out (by decide) (by decide)
    have HF := Lib.hid hf
    clear hf c0 c1 f0 f1
    go_wp2_with fail
    go_ret3
    exact ⟨by rw [HA.out]; rfl, HF.out.1, HF.out.2⟩
  have N2 := Lib.hid (show ¬ (1 < l.length ∧ l.getD 1 0 ≠ 3) from fun h => h.2 c1)
  rw [c1, show (((3 : UInt8).toNat : Nat) : Int) = 3 from rfl] at t1
  clear c1
  by_cases s2 : S.size = 2
  · have hl1 : l.length = 2 := by rw [HL.out]; exact s2
    have HE : Hid (nxE l = 33) := Lib.hid (by rw [nxE, if_neg N0.out, if_neg N1.out, if_neg N2.out, if_neg (by omega), if_pos (by omega)])
    have HA := Lib.hid (ans_bad l 33 HE.out (by decide))
    have d2 : decide ((2 : Int) < (S.size : Int)) = false := by simp; omega
    have d3 : decide ((S.size : Int) < 5) = true := by simp; omega
    clear hl1 s2
    go_enter Try.func13, Try.ntmps13
    go_wp2_with fail
    refine (CK.out w).mono ?_
    rintro e W ⟨rfl, rfl⟩
    go_wp2_with fail
    go_ret3
    exact ⟨by rw [HA.out]; rfl, by rw [BUSY.out HE.out]; exact HR.out, .refl _ _⟩
  have i2 : 2 < S.size := by omega
  have j2 : (2 : Int) < (S.size : Int) := by omega
  have d2 : decide ((2 : Int) < (S.size : Int)) = true := by simp; omega
  have t2 := AT.out 2 i2
  rw [show (((2 : Nat)) : Int) = 2 from rfl] at t2
  clear s2
  by_cases c2 : l.getD 2 0 = 3
  case neg =>
    have HE : Hid (nxE l = 11) := Lib.hid (by rw [nxE, if_neg N0.out, if_neg N1.out, if_neg N2.out, if_pos ⟨by rw [HL.out]; exact i2, c2⟩])
    have HA := Lib.hid (ans_bad l 11 HE.out (by decide))
    have m2 : (((l.getD 2 0).toNat : Int) != 3) = true := by
      simp only [bne_iff_ne]; intro h; exact c2 (UInt8.toNat_inj.1 (by show (l.getD 2 0).toNat = 3; omega))
    obtain ⟨b2, e2⟩ : ∃ b2, ((l.getD 2 0).toNat : Int) = b2 := ⟨_, rfl⟩
    rw [e2] at t2 m2
    clear e2 c2
    go_enter Try.func13, Try.ntmps13
    go_wp2_with fail
    refine (CK.out w).mono ?_
    rintro e W ⟨rfl, rfl⟩
    go_wp2_with fail
    refine (CW.out 11).mono ?_
    rintro e W ⟨rfl, rfl⟩
    have hf := BAD.out 11 HE.out (by decide) (by decide)
    have HF := Lib.hid hf
    clear hf c0 c1 f0 f1
    go_wp2_with fail
    go_ret3
    exact ⟨by rw [HA.out]; rfl, HF.out.1, HF.out.2⟩
  have N3 := Lib.hid (show ¬ (2 < l.length ∧ l.getD 2 0 ≠ 3) from fun h => h.2 c2)
  rw [c2, show (((3 : UInt8).toNat : Nat) : Int) = 3 from rfl] at t2
  clear c2
  by_cases c3 : S.size < 5
  · have hl1 : l.length < 5 := by rw [HL.out]; exact c3
    have HE : Hid (nxE l = 33) := Lib.hid (by rw [nxE, if_neg N0.out, if_neg N1.out, if_neg N2.out, if_neg N3.out, if_pos hl1])
    have HA := Lib.hid (ans_bad l 33 HE.out (by decide))
    have d3 : decide ((S.size : Int) < 5) = true := by simp; omega
    clear hl1 c3
    go_enter Try.func13, Try.ntmps13
    go_wp2_with fail
    refine (CK.out w).mono ?_
    rintro e W ⟨rfl, rfl⟩
    go_wp2_with fail
    go_ret3
    exact ⟨by rw [HA.out]; rfl, by rw [BUSY.out HE.out]; exact HR.out, .refl _ _⟩
  have N4 := Lib.hid (show ¬ l.length < 5 by rw [HL.out]; exact c3)
  have d3 : decide ((S.size : Int) < 5) = false := by simp; omega
  have i3 : 3 < S.size := by omega
  have i4 : 4 < S.size := by omega
  have j3 : (3 : Int) < (S.size : Int) := by omega
  have j4 : (4 : Int) < (S.size : Int) := by omega
  have j5 : (5 : Int) ≤ (S.size : Int) := by omega
  have t3 := AT.out 3 i3
  have t4 := AT.out 4 i4
  rw [show (((3 : Nat)) : Int) = 3 from rfl] at t3
  rw [show (((4 : Nat)) : Int) = 4 from rfl] at t4
  have hb3 := (l.getD 3 0).toNat_lt
  have hb4 := (l.getD 4 0).toNat_lt
  obtain ⟨b3, e3⟩ : ∃ b3, (l.getD 3 0).toNat = b3 := ⟨_, rfl⟩
  obtain ⟨b4, e4⟩ : ∃ b4, (l.getD 4 0).toNat = b4 := ⟨_, rfl⟩
  obtain ⟨z, hz⟩ : ∃ z, z = szR l := ⟨_, rfl⟩
  have hzs : (256 : Int) * (b3 : Int) + (b4 : Int) = (z : Int) := by rw [hz, szR, e3, e4]; omega
  rw [e3] at t3 hb3
  rw [e4] at t4 hb4
  have HZ := Lib.hid hz
  have x3 : IntKind.i64.wrap (b3 : Int) = (b3 : Int) := by rw [IntKind.wrap_i64]; omega
  have x4 : IntKind.i64.wrap (b4 : Int) = (b4 : Int) := by rw [IntKind.wrap_i64]; omega
  have hc3 := Lib.hid c3
  clear e3 e4 hz AT c3
  by_cases c4 : 16640 < z
  · have c4' : 16640 < szR l := by rw [← HZ.out]; exact c4
    have HE : Hid (nxE l = 13) := Lib.hid (by rw [nxE, if_neg N0.out, if_neg N1.out, if_neg N2.out, if_neg N3.out, if_neg N4.out, if_pos c4'])
    have HA := Lib.hid (ans_bad l 13 HE.out (by decide))
    have d4 : decide ((16640 : Int) < (z : Int)) = true := by simp; omega
    clear c4 c4'
    go_enter Try.func13, Try.ntmps13
    go_wp2_with fail
    refine (CK.out w).mono ?_
    rintro e W ⟨rfl, rfl⟩
    go_wp2_with fail
    go_quiet (fail)
    have hbd := Lib.hid (below_drewN (Below.refl w.heap.size w) nq)
    go_wp2_with fail
    refine (CWN.out 13 nq).mono ?_
    rintro e W ⟨rfl, rfl⟩
    have hf := BADN.out nq 13 HE.out (by decide) (by decide)
    have HF := Lib.hid hf
    clear hf c0 c1 f0 f1
    go_wp2_with fail
    go_ret3
    exact ⟨by rw [HA.out]; rfl, HF.out.1, HF.out.2⟩
  have N5 := Lib.hid (show ¬ 16640 < szR l by rw [← HZ.out]; exact c4)
  have d4 : decide ((16640 : Int) < (z : Int)) = false := by simp; omega
  by_cases c5 : S.size < 5 + z
  · have c5' : l.length < 5 + szR l := by rw [← HZ.out, HL.out]; exact c5
    have HE : Hid (nxE l = 33) := Lib.hid (by rw [nxE, if_neg N0.out, if_neg N1.out, if_neg N2.out, if_neg N3.out, if_neg N4.out, if_neg N5.out, if_pos c5'])
    have HA := Lib.hid (ans_bad l 33 HE.out (by decide))
    have d5 : decide ((S.size : Int) < 5 + (z : Int)) = true := by simp; omega
    have hz5 : z ≤ 16640 := by omega
    clear c4 c5 c5'
    go_enter Try.func13, Try.ntmps13
    go_wp2_with fail
    refine (CK.out w).mono ?_
    rintro e W ⟨rfl, rfl⟩
    go_wp2_with fail
    go_quiet (fail)
    have hbd := Lib.hid (below_drewN (Below.refl w.heap.size w) nq)
    go_wp2_with fail
    go_ret3
    exact ⟨by rw [HA.out]; rfl, by rw [BUSY.out HE.out]; exact HR.out.below hbd.out, .of_below hbd.out⟩
  · have c5' : ¬ l.length < 5 + szR l := by rw [← HZ.out, HL.out]; exact c5
    have HE : Hid (nxE l = 0) := Lib.hid (by rw [nxE, if_neg N0.out, if_neg N1.out, if_neg N2.out, if_neg N3.out, if_neg N4.out, if_neg N5.out, if_neg c5'])
    have HA := Lib.hid (ans_good l HE.out)
    have d5 : decide ((S.size : Int) < 5 + (z : Int)) = false := by simp; omega
    have hz5 : z ≤ 16640 := by omega
    have j6 : (5 : Int) + (z : Int) ≤ (S.size : Int) := by omega
    have j7 : ((5 : Int) + (z : Int)).toNat = 5 + z := by omega
    have HBz : Hid (bodyB l = S.extract 5 (5 + z)) := Lib.hid (by rw [bodyB, ← HZ.out, Lib.extract_eq, ← HLL.out, Nat.add_sub_cancel_left])
    clear c4 c5 c5'
    go_enter Try.func13, Try.ntmps13
    go_wp2_with fail
    refine (CK.out w).mono ?_
    rintro e W ⟨rfl, rfl⟩
    go_wp2_with fail
    go_quiet (fail)
    generalize nq = q1 at *
    have hf := GOOD.out HE.out q1 z HZ.out
    obtain ⟨g0, g1⟩ := CL.out q1
    have HF := Lib.hid hf
    clear hf
    go_wp2_with fail
    go_quiet (fail)
    have hbd := Lib.hid (below_drewN (Below.refl ((w.drewN q1).setCell ⟨b, 0, none⟩ (.string (S.extract (5 + z) S.size))).heap.size ((w.drewN q1).setCell ⟨b, 0, none⟩ (.string (S.extract (5 + z) S.size)))) nq)
    go_wp2_with fail
    go_ret3
    exact ⟨by rw [HA.out, HBz.out, e0.out]; rfl, HF.out.1.below hbd.out, HF.out.2.trans (.of_below hbd.out)⟩
end Go.Proofs.Ytffnafikegakcaa
