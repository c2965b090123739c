/- sha.compress at words of 32 bits: the eight words behind one more block of 64 bytes. The table of the round constants lies in its variable. -/
import Derived.Test.YthcfolefdalaiaaDoorSched32
namespace Go.Proofs.YthcfolefdalaiaaDoor
open Go.RowKit Go.Sort
set_option maxRecDepth 100000
set_option linter.unusedSimpArgs false
set_option linter.unusedVariables false

/-- The variable holds the table. -/
def TabK (w : World) (K : Nat → Int) : Prop := ∀ t, t < 80 → w.cell? ⟨1, t, none⟩ = some (.int .u64 (K t))
theorem TabK.lt {w : World} {K : Nat → Int} (h : TabK w K) : 1 < w.heap.size := block_lt_of_cell (h 0 (by omega))
theorem TabK.below {w w' : World} {K : Nat → Int} {B : Nat} (h : TabK w K) (hb : Below B w w') (hB : 1 < B) : TabK w' K := fun t ht => (hb.cell hB).trans (h t ht)

theorem info8_32 : (Tryd.prog.info? 59).map (fun i => (i.zero, i.size)) = some (some (.agg #[.int .u32 0, .int .u32 0, .int .u32 0, .int .u32 0, .int .u32 0, .int .u32 0, .int .u32 0, .int .u32 0]), 8) := by kernel_rfl
theorem index8_32 (s : W8) (w : World) (k : Nat) (h : k < 8) : (Instr.index 59 (.agg s.cells32) (.int .i64 (k : Int))).run Tryd.prog w = .ok (.int .u32 (s.at k)) w := by
  rcases lt8 h with rfl | rfl | rfl | rfl | rfl | rfl | rfl | rfl <;> kernel_rfl

/-- What lies where while compress runs: the parameters, the state, the result, the words of the schedule, the table. -/
structure CInv32 (K : Nat → Int) (w W : World) (B G : Nat) (S ws : Array Value) : Prop where
  prm : PrmAt W B
  row : W.heap[B + 1]? = some (.cells S 59)
  res : W.heap[B + 1 + 1]? = some (.cells #[.int .u32 0, .int .u32 0, .int .u32 0, .int .u32 0, .int .u32 0, .int .u32 0, .int .u32 0, .int .u32 0] 59)
  wds : W.heap[G]? = some (.cells ws 90)
  tab : TabK W K
  low : 1 < B
  bel : Below B w W
  lt : B + 1 + 1 < G
theorem CInv32.step {K : Nat → Int} {w W W' : World} {B G : Nat} {S ws : Array Value} (h : CInv32 K w W B G S ws) (hb : Below W.heap.size W W') : CInv32 K w W' B G S ws :=
  ⟨h.prm.below hb (blk_lt h.prm), blk_below hb (blk_lt h.row) h.row, blk_below hb (blk_lt h.res) h.res, blk_below hb (blk_lt h.wds) h.wds, h.tab.below hb h.tab.lt, h.low,
   h.bel.trans (hb.mono (Nat.le_of_lt (blk_lt h.prm))), h.lt⟩
theorem CInv32.state {K : Nat → Int} {w W : World} {B G : Nat} {st : W8} {ws : Array Value} (h : CInv32 K w W B G st.cells32 ws) :
    W.cell? ⟨B + 1, 0, none⟩ = some (.int .u32 st.a) ∧ W.cell? ⟨B + 1, 1, none⟩ = some (.int .u32 st.b) ∧ W.cell? ⟨B + 1, 2, none⟩ = some (.int .u32 st.c) ∧ W.cell? ⟨B + 1, 3, none⟩ = some (.int .u32 st.d) ∧
    W.cell? ⟨B + 1, 4, none⟩ = some (.int .u32 st.e) ∧ W.cell? ⟨B + 1, 5, none⟩ = some (.int .u32 st.f) ∧ W.cell? ⟨B + 1, 6, none⟩ = some (.int .u32 st.g) ∧ W.cell? ⟨B + 1, 7, none⟩ = some (.int .u32 st.h) := by
  refine ⟨?_, ?_, ?_, ?_, ?_, ?_, ?_, ?_⟩ <;> (rw [cell_of_row W _ _ _ _ _ h.row]; rfl)

set_option maxHeartbeats 1000000 in
set_option maxRecDepth 100000 in
theorem compress32_any (K : Nat → Int) (st : W8) (s : ByteArray) (w : World) (hs : 64 ≤ s.size) (hs' : s.size ≤ 64) (hK : TabK w K) :
    Calls Tryd.prog 55 #[prm256, .agg st.cells32, .string s] w fun e w' => e = .returned (.agg (comp32 (fun t => K t / 4294967296) st s.data.toList).cells32) ∧ Below w.heap.size w w' := by
  have Hz := Lib.hid (zero_of_info info80_32)
  go_enter Tryd.func55, Tryd.ntmps55
  go_wp2_with fail
  have hP := blk_old (o := .cells #[.int .u32 0, .int .u32 0, .int .u32 0, .int .u32 0, .int .u32 0, .int .u32 0, .int .u32 0, .int .u32 0] 59) (blk_old (o := .cells st.cells32 59) (blk_new w (.cells #[.int .i64 64, .int .i64 64, .int .u64 7, .int .u64 18, .int .u64 3, .int .u64 17, .int .u64 19, .int .u64 10, .int .u64 6, .int .u64 11, .int .u64 25, .int .u64 2, .int .u64 13, .int .u64 22] 52)))
  have hR := blk_old (o := .cells #[.int .u32 0, .int .u32 0, .int .u32 0, .int .u32 0, .int .u32 0, .int .u32 0, .int .u32 0, .int .u32 0] 59) (blk_new2 w (.cells #[.int .i64 64, .int .i64 64, .int .u64 7, .int .u64 18, .int .u64 3, .int .u64 17, .int .u64 19, .int .u64 10, .int .u64 6, .int .u64 11, .int .u64 25, .int .u64 2, .int .u64 13, .int .u64 22] 52) (.cells st.cells32 59))
  have hA := blk_new3 w (.cells #[.int .i64 64, .int .i64 64, .int .u64 7, .int .u64 18, .int .u64 3, .int .u64 17, .int .u64 19, .int .u64 10, .int .u64 6, .int .u64 11, .int .u64 25, .int .u64 2, .int .u64 13, .int .u64 22] 52) (.cells st.cells32 59) (.cells #[.int .u32 0, .int .u32 0, .int .u32 0, .int .u32 0, .int .u32 0, .int .u32 0, .int .u32 0, .int .u32 0] 59)
  have hB := below_new3 w (.cells #[.int .i64 64, .int .i64 64, .int .u64 7, .int .u64 18, .int .u64 3, .int .u64 17, .int .u64 19, .int .u64 10, .int .u64 6, .int .u64 11, .int .u64 25, .int .u64 2, .int .u64 13, .int .u64 22] 52) (.cells st.cells32 59) (.cells #[.int .u32 0, .int .u32 0, .int .u32 0, .int .u32 0, .int .u32 0, .int .u32 0, .int .u32 0, .int .u32 0] 59)
  generalize (((w.alloc _).alloc _).alloc _) = W at *
  have hlow := hK.lt
  have hK1 := hK.below hB hlow
  generalize hBB : w.heap.size = B at *
  have HBB := Lib.hid hBB
  clear hBB hK
  refine (schedule32_any s _ hs hs').mono ?_
  rintro e w1 ⟨rfl, hb1⟩
  have hlen : (sch32 (wds32 s.data.toList) 48).length = 64 := by rw [sch32_length _ (wds32_length _)]
  have HC := Lib.hid (show comp32 (fun t => K t / 4294967296) st s.data.toList = add32 st (rnds32 (fun t => K t / 4294967296) (fun t => (sch32 (wds32 s.data.toList) 48).getD t 0) st 64) from rfl)
  generalize hOut : comp32 (fun t => K t / 4294967296) st s.data.toList = out at *
  have HOut := Lib.hid hOut
  clear hOut
  generalize sch32 (wds32 s.data.toList) 48 = ws at *
  have hsz := pad80_32_size ws (by omega)
  have hi := Hz.out.2
  have HI := Lib.hid (show (Tryd.prog.info? 90).map (·.size) = some (pad80_32 ws).size from by rw [hsz]; exact hi)
  have HO := Lib.hid (show (pad80_32 []).size = (pad80_32 ws).size from by rw [hsz, pad80_32_size _ (by simp)])
  have H1 := Lib.hid (pad80_32_one ws (by omega))
  have hz := Hz.out.1
  have HL := Lib.hid hlen
  clear hsz hi hlen
  have hg1 := blk_below hb1 (blk_lt hA) hA
  have hinv : CInv32 K w ((w1.alloc (.cells (pad80_32 []) 90)).setRow w1.heap.size (pad80_32 ws)) B w1.heap.size st.cells32 (pad80_32 ws) := by
    have l1 := blk_lt hg1
    have ne : ∀ k, k < B + 1 + 1 + 1 → k ≠ w1.heap.size := fun k hk => by omega
    refine ⟨?_, ?_, ?_, ?_, ?_, by omega, ?_, by omega⟩
    · exact (setRow_other _ _ _ _ (ne _ (by omega))).trans (blk_old (blk_below hb1 (blk_lt hP) hP))
    · exact (setRow_other _ _ _ _ (ne _ (by omega))).trans (blk_old (blk_below hb1 (blk_lt hR) hR))
    · exact (setRow_other _ _ _ _ (ne _ (by omega))).trans (blk_old hg1)
    · exact setRow_heap _ _ _ _ _ _ (blk_new w1 _)
    · have h1 := hK1.below hb1 hK1.lt
      exact fun t ht => (cell_setRow_other _ _ _ _ (by simp; omega)).trans ((below_new w1 _).cell (by simp; omega) |>.trans (h1 t ht))
    · exact below_setRow ((hB.trans (hb1.mono (Nat.le_of_lt (blk_lt hP)))).alloc (by omega) _) (by omega) _
  have HG := Lib.hid (blk_new w1 (.cells (pad80_32 []) 90))
  clear hP hR hA hB hb1 hK1 hg1
  go_wp2_with (with_reducible refine wpList_store_row rfl 90 _ _ rfl w1.heap.size (pad80_32 ws) rfl rfl 90 _ HG.out HI.out HO.out H1.out ?_)
  clear Hz HG HI HO H1 hz
  generalize (w1.alloc (.cells (pad80_32 []) 90)).setRow w1.heap.size (pad80_32 ws) = W2 at *
  generalize w1.heap.size = G at *
  simp only [Act.put]
  have HV := Lib.hid hinv
  clear hinv
  -- the bits of a word, and how many are left out
  · obtain ⟨c0, c1, c2, c3, c4, c5, c6, c7, c8, c9, c10, c11, c12, c13⟩ := HV.out.prm.cells
    have k0 := cell_regrown c0; have k1 := cell_regrown c1; have k2 := cell_regrown c2; have k3 := cell_regrown c3; have k4 := cell_regrown c4
    have k5 := cell_regrown c5; have k6 := cell_regrown c6; have k7 := cell_regrown c7; have k8 := cell_regrown c8; have k9 := cell_regrown c9
    have k10 := cell_regrown c10; have k11 := cell_regrown c11; have k12 := cell_regrown c12; have k13 := cell_regrown c13
    refine wp_region_reads (by kernel_rfl) (by kernel_rfl) ?_
    repeat (quiet_step (first | (go_at_call 51; exact Calls.regrown_of (unused256 _)) | (go_at_call 54; exact Calls.regrown_of (wordBits256 _))))
    refine wpQuiet_nil ?_
    intro W3 hb3
    replace HV := Lib.hid (HV.out.step hb3)
    clear k0 k1 k2 k3 k4 k5 k6 k7 k8 k9 k10 k11 k12 k13 c0 c1 c2 c3 c4 c5 c6 c7 c8 c9 c10 c11 c12 c13 hb3
    go_wp2_with fail
    -- the words of the state
    obtain ⟨c0, c1, c2, c3, c4, c5, c6, c7⟩ := HV.out.state
    have k0 := cell_regrown c0; have k1 := cell_regrown c1; have k2 := cell_regrown c2; have k3 := cell_regrown c3
    refine wp_region_reads (by kernel_rfl) (by kernel_rfl) ?_
    repeat (first | go_big_quiet_step (fail) | quiet_step (fail))
    refine wpQuiet_nil ?_
    intro W4 hb4
    replace HV := Lib.hid (HV.out.step hb4)
    clear k0 k1 k2 k3 c0 c1 c2 c3 c4 c5 c6 c7 hb4
    go_wp2_with fail
    obtain ⟨c0, c1, c2, c3, c4, c5, c6, c7⟩ := HV.out.state
    have k4 := cell_regrown c4; have k5 := cell_regrown c5; have k6 := cell_regrown c6; have k7 := cell_regrown c7
    refine wp_region_reads (by kernel_rfl) (by kernel_rfl) ?_
    repeat (first | go_big_quiet_step (fail) | quiet_step (fail))
    refine wpQuiet_nil ?_
    intro W5 hb5
    replace HV := Lib.hid (HV.out.step hb5)
    clear k4 k5 k6 k7 c0 c1 c2 c3 c4 c5 c6 c7 hb5
    have c1 := HV.out.prm.cells.2.1
    go_wp2_with fail
    clear c1
    go_loopw [10, 11, 12, 13, 14, 15, 16, 17, 49] (fun a b c d e f g h i wr => ∃ (t : Nat) (r : W8), t ≤ 64 ∧ i = .int .i64 t ∧ Hid (rnds32 (fun t => K t / 4294967296) (fun t => ws.getD t 0) st t = r) ∧
        a = .int .u32 r.a ∧ b = .int .u32 r.b ∧ c = .int .u32 r.c ∧ d = .int .u32 r.d ∧ e = .int .u32 r.e ∧ f = .int .u32 r.f ∧ g = .int .u32 r.g ∧ h = .int .u32 r.h ∧ CInv32 K w wr B G st.cells32 (pad80_32 ws)) (fun _ _ _ _ _ _ _ _ i _ => 64 - (intOf i).toNat)
    case atStart => exact ⟨0, st, by omega, rfl, Lib.hid rfl, rfl, rfl, rfl, rfl, rfl, rfl, rfl, rfl, HV.out⟩
    case round =>
      clear HV
      obtain ⟨t, ⟨xa, xb, xc, xd, xe, xf, xg, xh⟩, ht, rfl, HR, rfl, rfl, rfl, rfl, rfl, rfl, rfl, rfl, hv⟩ := hrel
      have HV := Lib.hid hv
      clear hv
      by_cases hlt : t < 64
      · have hd : decide ((t : Int) < 64) = true := by simp; omega
        have ck := HV.out.tab t (by omega)
        have cw : wr.cell? ⟨G, t, none⟩ = some (.int .u32 (ws.getD t 0)) := by rw [cell_of_row wr _ _ _ _ _ HV.out.wds]; exact pad80_32_get _ _ (by have := HL.out; omega)
        obtain ⟨c0, c1, c2, c3, c4, c5, c6, c7, c8, c9, c10, c11, c12, c13⟩ := HV.out.prm.cells
        clear c0 c1 c2 c3 c4 c5 c6 c7
        have HS := Lib.hid (show rnds32 (fun t => K t / 4294967296) (fun t => ws.getD t 0) st (t + 1) = rnd32 ⟨xa, xb, xc, xd, xe, xf, xg, xh⟩ (K t / 4294967296) (ws.getD t 0) from by rw [rnds32, HR.out])
        generalize ws.getD t 0 = xw at *
        generalize K t = xk at *
        go_wp2_with fail
        have k8 := cell_regrown c8; have k9 := cell_regrown c9; have k10 := cell_regrown c10; have kw := cell_regrown cw
        refine wp_region_reads (by kernel_rfl) (by kernel_rfl) ?_
        repeat (first | go_big_quiet_step ((go_at_call 63; exact Calls.regrown_of (rotations32_any _ _ _ _ _ (by omega) (by omega) (by omega) (by omega) (by omega) (by omega)))) | quiet_step ((go_at_call 63; exact Calls.regrown_of (rotations32_any _ _ _ _ _ (by omega) (by omega) (by omega) (by omega) (by omega) (by omega)))))
        refine wpQuiet_nil ?_
        intro W6 hb6
        replace HV := Lib.hid (HV.out.step hb6)
        clear ck cw c8 c9 c10 c11 c12 c13 k8 k9 k10 kw hb6
        obtain ⟨c0, c1, c2, c3, c4, c5, c6, c7, c8, c9, c10, c11, c12, c13⟩ := HV.out.prm.cells
        clear c0 c1 c2 c3 c4 c5 c6 c7 c8 c9 c10
        go_wp2_with fail
        refine (rotations32_any _ _ _ _ _ (by omega) (by omega) (by omega) (by omega) (by omega) (by omega)).mono ?_
        rintro e W7 ⟨rfl, hb7⟩
        replace HV := Lib.hid (HV.out.step hb7)
        clear c11 c12 c13 hb7
        go_wp2_with fail
        go_roundw
        case rel => 
          refine ⟨t + 1, rnd32 ⟨xa, xb, xc, xd, xe, xf, xg, xh⟩ (xk / 4294967296) xw, by omega, by go_num, HS, ?_, rfl, rfl, rfl, ?_, rfl, rfl, rfl, HV.out⟩
          · exact congrArg (Value.int .u32) (by simp only [rnd32]; omega)
          · exact congrArg (Value.int .u32) (by simp only [rnd32]; omega)
        case measure => simp [intOf]; omega
      · have hd : decide ((t : Int) < 64) = false := by simp; omega
        obtain rfl : t = 64 := by omega
        go_wp2_with fail
        have HX := Lib.hid (index8_32 ⟨xa, xb, xc, xd, xe, xf, xg, xh⟩)
        go_loopw [119] (fun i wr => ∃ k : Nat, k ≤ 8 ∧ i = .int .i64 k ∧ CInv32 K w wr B G (mix32 st ⟨xa, xb, xc, xd, xe, xf, xg, xh⟩ k) (pad80_32 ws)) (fun i _ => 8 - (intOf i).toNat)
        case atStart => exact ⟨0, by omega, rfl, HV.out⟩
        case round =>
          clear HV hd
          obtain ⟨k, hk, rfl, hv⟩ := hrel
          have HV := Lib.hid hv
          clear hv
          by_cases hk8 : k < 8
          · have hd : decide ((k : Int) < 8) = true := by simp; omega
            have hix : ∀ w, (Instr.index 59 (.agg #[.int .u32 xa, .int .u32 xb, .int .u32 xc, .int .u32 xd, .int .u32 xe, .int .u32 xf, .int .u32 xg, .int .u32 xh]) (.int .i64 (k : Int))).run Tryd.prog w = .ok (.int .u32 (W8.at ⟨xa, xb, xc, xd, xe, xf, xg, xh⟩ k)) w := fun w => HX.out w k hk8
            have cs : wr.cell? ⟨B + 1, k, none⟩ = some (.int .u32 (st.at k)) := by rw [cell_of_row wr _ _ _ _ _ HV.out.row]; exact mix32_get _ _ _ hk8
            have fs : wr.frozen? ⟨B + 1, k, none⟩ = false := frozen_of_row wr _ _ _ _ HV.out.row
            go_wp2_with fail
            go_roundw
            case rel =>
              refine ⟨k + 1, by omega, by go_num, ?_⟩
              have h := HV.out
              have l1 := h.lt
              have l0 := h.low
              refine ⟨?_, ?_, ?_, ?_, ?_, l0, h.bel.setCell (by simp) _, l1⟩
              · exact (heap_setCell_other _ _ _ _ (by simp)).trans h.prm
              · rw [← mix32_set _ _ _ hk8]; exact heap_setCell_same _ _ _ _ _ _ h.row
              · exact (heap_setCell_other _ _ _ _ (by simp)).trans h.res
              · exact (heap_setCell_other _ _ _ _ (by simp; omega)).trans h.wds
              · exact fun t ht => (World.cell?_setCell_far _ _ _ _ (by simp; omega)).trans (h.tab t ht)
            case measure => simp [intOf]; omega
          · have hd : decide ((k : Int) < 8) = false := by simp; omega
            obtain rfl : k = 8 := by omega
            have hrow := HV.out.row
            rw [mix32_eight] at hrow
            have HRow := Lib.hid hrow
            have HRes := Lib.hid HV.out.res
            have HI := Lib.hid (show (Tryd.prog.info? 59).map (·.size) = some out.cells32.size from (zero_of_info info8_32).2)
            have HO8 := Lib.hid (show (#[.int .u32 0, .int .u32 0, .int .u32 0, .int .u32 0, .int .u32 0, .int .u32 0, .int .u32 0, .int .u32 0] : Array Value).size = out.cells32.size from rfl)
            have H18 := Lib.hid (show out.cells32.all (·.oneCell') = true from by simp [Value.oneCell'])
            have HO : Hid (out = add32 st ⟨xa, xb, xc, xd, xe, xf, xg, xh⟩) := Lib.hid (by rw [HC.out, HR.out])
            rw [← HO.out] at HRow
            clear hrow hd
            go_wp2_with (first
              | (with_reducible refine wpList_load_row rfl 59 _ rfl (B + 1) rfl 59 _ (0, 0) (.array 8 58) HRow.out Tryd.underlying59 rfl HI.out ?_)
              | (with_reducible refine wpList_store_row rfl 59 _ _ rfl (B + 1 + 1) out.cells32 rfl rfl 59 _ HRes.out HI.out HO8.out H18.out ?_))
            exact bodyPost_ret (v := .agg out.cells32) (results_cell_row (by rfl) _ _ (B + 1 + 1) 59 _ (0, 0) (.array 8 58) rfl (setRow_heap _ _ _ _ _ _ HRes.out) Tryd.underlying59 rfl HI.out) rfl ⟨by rw [HOut.out], by rw [HBB.out]; exact below_setRow HV.out.bel (by omega) _⟩
end Go.Proofs.YthcfolefdalaiaaDoor
