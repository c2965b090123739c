/- Package record: (*Reader).Next. -/
import Derived.Test.YtffnafikegakcaaGreatDoorRcRead
namespace Go.Proofs.YtffnafikegakcaaGreatDoor
open Go.RowKit Go.Sort
set_option maxRecDepth 100000
set_option linter.unusedSimpArgs false
set_option linter.unusedVariables false

/-- What Next answers. -/
def nextA (st : RSt) : Ending := .returned (.tuple #[.int .i64 (nextK st), .string (nextB st), .int .i64 (nextE st)])
theorem next_err (st : RSt) (h : st.err ≠ 0) : nextA st = .returned (.tuple #[.int .i64 0, .string emB, .int .i64 st.err]) ∧ nextS st = st := by
  have e : nextE st = st.err := by rw [nextE, if_pos h]
  refine ⟨?_, by rw [nextS, if_pos h]⟩
  rw [nextA, nextK, nextB, e, if_neg h, if_neg h]
theorem next_ok (st : RSt) (h : st.err = 0) : nextA st = ansS st.buf := by
  have e : nextE st = nxE st.buf := by rw [nextE, if_neg (by rw [h]; decide)]
  rw [nextA, nextK, nextB, e]; rfl
theorem nxE_vals (l : List UInt8) : nxE l = 0 ∨ nxE l = 33 ∨ nxE l = 11 ∨ nxE l = 13 := by
  unfold nxE
  repeat (split; · simp)
  simp

set_option maxHeartbeats 4000000 in
theorem rcNext_any (b base : Nat) (st : RSt) (w : World) (h : RdAt w b base st) (hb : b < base) (hB : base ≤ w.heap.size) (hm : st.buf.length ≤ 1048576) :
    Calls Tryz.prog 17 #[.pointer (some ⟨b, 0, none⟩)] w fun e w' => e = nextA st ∧ RdAt w' b base (nextS st) ∧ ButB base b w w' := by
  have HR := Lib.hid h
  obtain ⟨v, hg, hbuf⟩ := h
  obtain ⟨c0, c1, f0, f1⟩ := rd_cells hg
  by_cases h0 : st.err = 0
  · have hbf := hbuf h0
    have d0 : (st.err != 0) = false := by simp [h0]
    have CS := Lib.hid (rcSplit_any base v st.buf w hbf hm)
    have EA := Lib.hid (next_ok st h0)
    unfold ansS at CS EA
    have HN : Hid (nextS st = if nxE st.buf = 0 then ⟨st.buf.drop (5 + szR st.buf), 0⟩ else if nxE st.buf = 33 then st else ⟨[], nxE st.buf⟩) := Lib.hid (by rw [nextS, if_neg (by rw [h0]; decide)])
    have hblt := blk_lt hg
    obtain ⟨ao, cap, rfl, hnc⟩ := hbf.shape
    rcases nxE_vals st.buf with he | he | he
    · have hlen := nxE_len st.buf he
      have hbs : (ansB st.buf).size = szR st.buf := by rw [ansB, if_pos he]; exact bodyB_size _ hlen.1
      rw [he] at CS EA HN
      rw [if_pos rfl] at HN
      rcases hbf with ⟨hv, hl⟩ | ⟨g, off, cap, cur, hv, hbg, hgg, hfit, hlc, hcm, hc⟩
      · rw [hl] at hlen; simp at hlen
      cases hv
      obtain ⟨n, hn⟩ : ∃ n, n = st.buf.length := ⟨_, rfl⟩
      obtain ⟨z, hz⟩ : ∃ z, z = szR st.buf := ⟨_, rfl⟩
      obtain ⟨o2, ho2, hsl0⟩ := slice_from g off st.buf.length cap (5 + szR st.buf) hlen.1 hlc
      rw [← hz, ← hn] at hsl0
      have hsl : ∀ W, (Instr.slice 46 (.slice (some ⟨g, off, none⟩) n cap) (some (.int .i64 (5 + (z : Int)))) none none).run Tryz.prog W = .ok (.slice (some ⟨g, o2, none⟩) (n - (5 + z)) (cap - (5 + z))) W := fun W => by
        have := hsl0 W
        rwa [show (((5 + z : Nat)) : Int) = 5 + (z : Int) by omega] at this
      have hbuf2 : ∀ W : World, W.heap[g]? = w.heap[g]? → Buf W base (.slice (some ⟨g, o2, none⟩) (n - (5 + z)) (cap - (5 + z))) (st.buf.drop (5 + szR st.buf)) := fun W hW => by
        refine .inr ⟨g, o2, cap - (5 + z), cur, by rw [List.length_drop, hn, hz], hbg, hW.trans hgg, ?_, ?_, by omega, fun j x hj => ?_⟩
        · rcases ho2 with rfl | h5 <;> omega
        · rw [List.length_drop]; omega
        · have hjl := (List.getElem?_eq_some_iff.1 hj).1
          rw [List.length_drop] at hjl
          rw [List.getElem?_drop] at hj
          rcases ho2 with rfl | h5
          · rw [Nat.add_assoc]; exact hc _ x hj
          · omega
      have HFIN : Hid (∀ W1, Below w.heap.size w W1 → RdAt (W1.setCell ⟨b, 0, none⟩ (.slice (some ⟨g, o2, none⟩) (n - (5 + z)) (cap - (5 + z)))) b base (nextS st) ∧ ButB base b w (W1.setCell ⟨b, 0, none⟩ (.slice (some ⟨g, o2, none⟩) (n - (5 + z)) (cap - (5 + z))))) := Lib.hid (fun W1 hb1 => by
        have hg1 := blk_below hb1 hblt hg
        refine ⟨⟨_, by rw [HN.out, ← h0]; exact rd_set0 _ hg1, fun _ => ?_⟩, (ButB.of_below hb1 hB).setCell 0 _⟩
        rw [HN.out]
        refine hbuf2 _ ((heap_setCell_other _ _ _ _ (by show g ≠ b; omega)).trans (hb1.block g (blk_lt hgg))))
      have G : Hid (∀ W1, Below w.heap.size w W1 → W1.cell? ⟨b, 0, none⟩ = some (.slice (some ⟨g, off, none⟩) n cap) ∧ W1.frozen? ⟨b, 0, none⟩ = false) := Lib.hid (fun W1 hb1 => by
        obtain ⟨a0, _, a2, _⟩ := rd_cells (blk_below hb1 hblt hg)
        rw [hn]; exact ⟨a0, a2⟩)
      have d1 : ((ansB st.buf).size : Int) = (z : Int) := by rw [hbs, hz]
      have hzb : z ≤ 16640 := by rw [hz]; exact hlen.2.2
      have hzn : (5 : Int) + (z : Int) ≤ (n : Int) := by have := hlen.1; omega
      rw [← hn] at CS c0
      generalize ansB st.buf = body at *
      generalize ansK st.buf = kd at *
      clear hn hz hbuf2 hsl0 ho2 hc hcm hlc hfit hgg hbg hbs hlen he hnc hbuf hg h0 HN
      go_enter Tryz.func17, Tryz.ntmps17
      go_wp2_with fail
      refine CS.out.mono ?_
      rintro e W1 ⟨rfl, hb1⟩
      obtain ⟨g0, fg0⟩ := G.out W1 hb1
      have hf := Lib.hid (HFIN.out W1 hb1)
      clear CS HFIN G c0 c1 f0 f1 hb1
      go_wp2_with fail
      go_ret3
      exact ⟨by rw [EA.out]; rfl, hf.out.1, hf.out.2⟩
    · rw [he] at CS EA HN
      rw [if_neg (by decide), if_pos rfl] at HN
      rw [show ansK st.buf = 0 by rw [ansK, if_neg (by rw [he]; decide)], show ansB st.buf = emB by rw [ansB, if_neg (by rw [he]; decide)]] at CS EA
      rw [HN.out]
      clear HN he hbuf hg h0 hbf hnc
      go_enter Tryz.func17, Tryz.ntmps17
      go_wp2_with fail
      refine CS.out.mono ?_
      rintro e W1 ⟨rfl, hb1⟩
      go_wp2_with fail
      go_ret3
      exact ⟨by rw [EA.out]; rfl, HR.out.below hb1, .of_below hb1 hB⟩
    · have he1 : nxE st.buf ≠ 0 ∧ nxE st.buf ≠ 33 := by rcases he with he | he <;> rw [he] <;> decide
      have d1 : (nxE st.buf == 0) = false := by simp [he1.1]
      have d2 : (nxE st.buf == 33) = false := by simp [he1.2]
      rw [if_neg he1.1, if_neg he1.2] at HN
      rw [show ansK st.buf = 0 by rw [ansK, if_neg he1.1], show ansB st.buf = emB by rw [ansB, if_neg he1.1]] at CS EA
      have HFIN : Hid (∀ W1, Below w.heap.size w W1 → RdAt ((W1.setCell ⟨b, 1, none⟩ (.int .i64 (nxE st.buf))).setCell ⟨b, 0, none⟩ (.slice none 0 0)) b base (nextS st) ∧ ButB base b w ((W1.setCell ⟨b, 1, none⟩ (.int .i64 (nxE st.buf))).setCell ⟨b, 0, none⟩ (.slice none 0 0))) := Lib.hid (fun W1 hb1 => by
        have hg1 := blk_below hb1 hblt hg
        refine ⟨⟨_, by rw [HN.out]; exact rd_set0 _ (rd_set1 _ hg1), fun _ => ?_⟩, ((ButB.of_below hb1 hB).setCell 1 _).setCell 0 _⟩
        rw [HN.out]; exact .inl ⟨rfl, rfl⟩)
      have G : Hid (∀ W1, Below w.heap.size w W1 → W1.cell? ⟨b, 1, none⟩ = some (.int .i64 st.err) ∧ W1.frozen? ⟨b, 1, none⟩ = false ∧ (W1.setCell ⟨b, 1, none⟩ (.int .i64 (nxE st.buf))).cell? ⟨b, 0, none⟩ = some (.slice ao st.buf.length cap) ∧ (W1.setCell ⟨b, 1, none⟩ (.int .i64 (nxE st.buf))).frozen? ⟨b, 0, none⟩ = false) := Lib.hid (fun W1 hb1 => by
        obtain ⟨_, a1, _, a3⟩ := rd_cells (blk_below hb1 hblt hg)
        obtain ⟨b0, _, b2, _⟩ := rd_cells (rd_set1 (.int .i64 (nxE st.buf)) (blk_below hb1 hblt hg))
        exact ⟨a1, a3, b0, b2⟩)
      generalize nxE st.buf = er at *
      clear HN he he1 hbuf hg h0 hbf hnc
      go_enter Tryz.func17, Tryz.ntmps17
      go_wp2_with fail
      refine CS.out.mono ?_
      rintro e W1 ⟨rfl, hb1⟩
      obtain ⟨g0, g1, g2, g3⟩ := G.out W1 hb1
      have hf := Lib.hid (HFIN.out W1 hb1)
      clear CS HFIN G c0 c1 f0 f1 hb1
      go_wp2_with fail
      go_ret3
      exact ⟨by rw [EA.out]; rfl, hf.out.1, hf.out.2⟩
  · obtain ⟨e1, e2⟩ := next_err st h0
    have d0 : (st.err != 0) = true := by simp [h0]
    rw [e1, e2]
    clear hbuf hg h0 e1 e2
    generalize st.err = er at *
    go_enter Tryz.func17, Tryz.ntmps17
    go_wp2_with fail
    go_quiet (fail)
    go_wp2_with fail
    go_ret3
    have hbd := below_drewN (Below.refl w.heap.size w) nq
    exact ⟨rfl, HR.out.below hbd, .of_below hbd hB⟩
end Go.Proofs.YtffnafikegakcaaGreatDoor
