/- Package record: a reader of records: NewReader, Feed, Next. -/
import Derived.Test.YtffnafikegakcaaGreatDoorRcSplit
namespace Go.Proofs.YtffnafikegakcaaGreatDoor
open Go.RowKit Go.Sort
set_option maxRecDepth 100000
set_option linter.unusedSimpArgs false
set_option linter.unusedVariables false

/-- Block b holds a reader that stands so; its bytes lie from base on. -/
def RdAt (w : World) (b base : Nat) (st : RSt) : Prop :=
  ∃ v, w.heap[b]? = some (.cells #[v, .int .i64 st.err] 69) ∧ (st.err = 0 → Buf w base v st.buf)
theorem RdAt.lt {w : World} {b base : Nat} {st : RSt} (h : RdAt w b base st) : b < w.heap.size := by
  obtain ⟨v, hg, _⟩ := h; exact blk_lt hg
theorem RdAt.keep {w w' : World} {b base : Nat} {st : RSt} (h : RdAt w b base st) (e : ∀ k, (k = b ∨ base ≤ k) → k < w.heap.size → w'.heap[k]? = w.heap[k]?) : RdAt w' b base st := by
  obtain ⟨v, hg, hb⟩ := h
  exact ⟨v, (e b (.inl rfl) (blk_lt hg)).trans hg, fun h0 => (hb h0).keep fun k h1 h2 => e k (.inr h1) h2⟩
theorem RdAt.below {w w' : World} {b base : Nat} {st : RSt} (h : RdAt w b base st) (hb : Below w.heap.size w w') : RdAt w' b base st := h.keep fun k _ hk => hb.block k hk
theorem rd_cells {w : World} {b : Nat} {v u : Value} (h : w.heap[b]? = some (.cells #[v, u] 69)) : w.cell? ⟨b, 0, none⟩ = some v ∧ w.cell? ⟨b, 1, none⟩ = some u ∧ w.frozen? ⟨b, 0, none⟩ = false ∧ w.frozen? ⟨b, 1, none⟩ = false := by
  refine ⟨?_, ?_, frozen_of_row w _ _ _ _ h, frozen_of_row w _ _ _ _ h⟩ <;> rw [cell_of_row w _ _ _ _ _ h] <;> rfl
theorem rd_set0 {w : World} {b : Nat} {v u : Value} (x : Value) (h : w.heap[b]? = some (.cells #[v, u] 69)) : (w.setCell ⟨b, 0, none⟩ x).heap[b]? = some (.cells #[x, u] 69) := heap_setCell_same _ _ _ _ _ _ h
theorem rd_set1 {w : World} {b : Nat} {v u : Value} (x : Value) (h : w.heap[b]? = some (.cells #[v, u] 69)) : (w.setCell ⟨b, 1, none⟩ x).heap[b]? = some (.cells #[v, x] 69) := heap_setCell_same _ _ _ _ _ _ h

theorem newReader_any (w : World) :
    Calls Tryz.prog 23 #[] w fun e w' => e = .returned (.pointer (some ⟨w.heap.size, 0, none⟩)) ∧ (∀ base, RdAt w' w.heap.size base ⟨[], 0⟩) ∧ Below w.heap.size w w' ∧ w.heap.size < w'.heap.size := by
  go_enter Tryz.func23, Tryz.ntmps23
  go_wp2_with fail
  go_ret
  exact ⟨rfl, fun base => ⟨_, blk_new w _, fun _ => .inl ⟨rfl, rfl⟩⟩, below_new w _, by simp⟩

theorem feedNil_any (d : ByteArray) (w : World) : Calls Tryz.prog 18 #[.pointer none, .string d] w fun e w' => e = .returned (.int .i64 2) ∧ w = w' := by
  go_enter Tryz.func18, Tryz.ntmps18
  go_wp2_with fail
  go_ret
  exact ⟨rfl, rfl⟩
theorem nextNil_any (w : World) : Calls Tryz.prog 17 #[.pointer none] w fun e w' => e = .returned (.tuple #[.int .i64 0, .string emB, .int .i64 2]) ∧ w = w' := by
  go_enter Tryz.func17, Tryz.ntmps17
  go_wp2_with fail
  go_ret3
  exact ⟨rfl, rfl⟩

set_option maxHeartbeats 2000000 in
theorem feed_any (b base : Nat) (st : RSt) (d : ByteArray) (w : World) (h : RdAt w b base st) (hb : b < base) (hB : base ≤ w.heap.size) (hm : st.buf.length ≤ 1048576) :
    Calls Tryz.prog 18 #[.pointer (some ⟨b, 0, none⟩), .string d] w fun e w' => e = .returned (.int .i64 (feedE st d)) ∧ RdAt w' b base (feedS st d) ∧ ButB base b w w' := by
  have HR := Lib.hid h
  obtain ⟨v, hg, hbuf⟩ := h
  obtain ⟨c0, c1, f0, f1⟩ := rd_cells hg
  by_cases h0 : st.err = 0
  · have hbf := hbuf h0
    have d0 : (st.err != 0) = false := by simp [h0]
    obtain ⟨ao, cap, rfl, _⟩ := hbf.shape
    obtain ⟨n, hn⟩ : ∃ n, n = st.buf.length := ⟨_, rfl⟩
    rw [← hn] at hm
    by_cases h1 : 1048576 < n + d.size
    · have e : feedE st d = 13 := by rw [feedE, if_neg (by rw [h0]; decide), if_pos (by rw [← hn]; exact h1)]
      have es : feedS st d = st := by rw [feedS, if_neg (by rw [e]; decide)]
      have d1 : decide ((1048576 : Int) - (n : Int) < (d.size : Int)) = true := by simp; omega
      rw [e, es]
      rw [← hn] at c0
      clear hbf hbuf hg h0 hn h1 e es
      go_enter Tryz.func18, Tryz.ntmps18
      go_wp2_with fail
      go_ret
      exact ⟨rfl, HR.out, .refl _ _ _⟩
    · have e : feedE st d = 0 := by rw [feedE, if_neg (by rw [h0]; decide), if_neg (by rw [← hn]; exact h1)]
      have es : feedS st d = ⟨st.buf ++ d.data.toList, 0⟩ := by rw [feedS, if_pos e]
      have d1 : decide ((1048576 : Int) - (n : Int) < (d.size : Int)) = false := by simp; omega
      rw [e, es]
      obtain ⟨ao2, cap2, W, hrun, hbf2, hgr⟩ := run_append_buf w 46 base _ st.buf d hbf (by rw [← hn]; omega) hB
      have hown := hbf.own_ge
      have hgW : W.heap[b]? = some (.cells #[.slice ao st.buf.length cap, .int .i64 st.err] 69) := (hgr.block b (blk_lt hg) (fun e => by have := hown b e.symm; omega)).trans hg
      obtain ⟨g0, g1, fg0, fg1⟩ := rd_cells hgW
      have hBB : ButB base b w W := (ButB.refl base b w).grown hgr hB hown
      have hfin : RdAt (W.setCell ⟨b, 0, none⟩ (.slice ao2 (st.buf.length + d.size) cap2)) b base ⟨st.buf ++ d.data.toList, 0⟩ :=
        ⟨_, by rw [← h0]; exact rd_set0 _ hgW, fun _ => hbf2.keep fun k h1 h2 => heap_setCell_other _ _ _ _ (by simp; omega)⟩
      have hfb := hBB.setCell 0 (.slice ao2 (st.buf.length + d.size) cap2)
      have HF := Lib.hid (And.intro hfin hfb)
      rw [← hn] at HF hrun g0 c0
      clear hbf hbuf hg h0 hn h1 e es hgW hBB hfin hfb hbf2 hgr hown
      go_enter Tryz.func18, Tryz.ntmps18
      go_wp2_with (at_builtin; refine wpList_append_run rfl (.tmp 32) (.tmp 33) 46 9 rfl _ _ _ _ rfl rfl hrun ?_)
      go_ret
      exact ⟨rfl, HF.out.1, HF.out.2⟩
  · have e : feedE st d = st.err := by rw [feedE, if_pos h0]
    have es : feedS st d = st := by rw [feedS, if_neg (by rw [e]; exact h0)]
    have d0 : (st.err != 0) = true := by simp [h0]
    rw [e, es]
    clear hbuf hg h0 e es
    generalize st.err = er at *
    go_enter Tryz.func18, Tryz.ntmps18
    go_wp2_with fail
    go_ret
    exact ⟨rfl, HR.out, .refl _ _ _⟩
end Go.Proofs.YtffnafikegakcaaGreatDoor
