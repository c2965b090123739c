/- sha.compress at words of 64 bits: the eight words behind one more block of 64 bytes. The table of the round constants lies in its variable. -/
import Derived.Test.YthcfolefdalaiaaDoorSched64
import Derived.Test.YthcfolefdalaiaaDoorComp32
namespace Go.Proofs.YthcfolefdalaiaaDoor
open Go.RowKit Go.Sort
set_option maxRecDepth 100000
set_option linter.unusedSimpArgs false
set_option linter.unusedVariables false

theorem info8_64 : (Tryd.prog.info? 63).map (fun i => (i.zero, i.size)) = some (some (.agg #[.int .u64 0, .int .u64 0, .int .u64 0, .int .u64 0, .int .u64 0, .int .u64 0, .int .u64 0, .int .u64 0]), 8) := by kernel_rfl
theorem index8_64 (s : W8) (w : World) (k : Nat) (h : k < 8) : (Instr.index 63 (.agg s.cells64) (.int .i64 (k : Int))).run Tryd.prog w = .ok (.int .u64 (s.at k)) w := by
  rcases lt8 h with rfl | rfl | rfl | rfl | rfl | rfl | rfl | rfl <;> kernel_rfl

/-- What lies where while compress runs: the parameters, the state, the result, the words of the schedule, the table. -/
structure CInv64 (K : Nat → Int) (w W : World) (B G : Nat) (S ws : Array Value) : Prop where
  prm : PrmBt W B
  row : W.heap[B + 1]? = some (.cells S 63)
  res : W.heap[B + 1 + 1]? = some (.cells #[.int .u64 0, .int .u64 0, .int .u64 0, .int .u64 0, .int .u64 0, .int .u64 0, .int .u64 0, .int .u64 0] 63)
  wds : W.heap[G]? = some (.cells ws 92)
  tab : TabK W K
  low : 1 < B
  bel : Below B w W
  lt : B + 1 + 1 < G
theorem CInv64.step {K : Nat → Int} {w W W' : World} {B G : Nat} {S ws : Array Value} (h : CInv64 K w W B G S ws) (hb : Below W.heap.size W W') : CInv64 K w W' B G S ws :=
  ⟨h.prm.below hb (blk_lt h.prm), blk_below hb (blk_lt h.row) h.row, blk_below hb (blk_lt h.res) h.res, blk_below hb (blk_lt h.wds) h.wds, h.tab.below hb h.tab.lt, h.low,
   h.bel.trans (hb.mono (Nat.le_of_lt (blk_lt h.prm))), h.lt⟩
theorem CInv64.state {K : Nat → Int} {w W : World} {B G : Nat} {st : W8} {ws : Array Value} (h : CInv64 K w W B G st.cells64 ws) :
    W.cell? ⟨B + 1, 0, none⟩ = some (.int .u64 st.a) ∧ W.cell? ⟨B + 1, 1, none⟩ = some (.int .u64 st.b) ∧ W.cell? ⟨B + 1, 2, none⟩ = some (.int .u64 st.c) ∧ W.cell? ⟨B + 1, 3, none⟩ = some (.int .u64 st.d) ∧
    W.cell? ⟨B + 1, 4, none⟩ = some (.int .u64 st.e) ∧ W.cell? ⟨B + 1, 5, none⟩ = some (.int .u64 st.f) ∧ W.cell? ⟨B + 1, 6, none⟩ = some (.int .u64 st.g) ∧ W.cell? ⟨B + 1, 7, none⟩ = some (.int .u64 st.h) := by
  refine ⟨?_, ?_, ?_, ?_, ?_, ?_, ?_, ?_⟩ <;> (rw [cell_of_row W _ _ _ _ _ h.row]; rfl)

set_option maxHeartbeats 1000000 in
set_option maxRecDepth 100000 in
theorem compress64_any (K : Nat → Int) (st : W8) (s : ByteArray) (w : World) (hs : 128 ≤ s.size) (hs' : s.size ≤ 128) (hK : TabK w K) :
    Calls Tryd.prog 57 #[prm512, .agg st.cells64, .string s] w fun e w' => e = .returned (.agg (comp64 (fun t => K t) st s.data.toList).cells64) ∧ Below w.heap.size w w' := by
  have Hz := Lib.hid (zero_of_info info80_64)
  go_enter Tryd.func57, Tryd.ntmps57
  go_wp2_with fail
  have hP := blk_old (o := .cells #[.int .u64 0, .int .u64 0, .int .u64 0, .int .u64 0, .int .u64 0, .int .u64 0, .int .u64 0, .int .u64 0] 63) (blk_old (o := .cells st.cells64 63) (blk_new w (.cells #[.int .i64 128, .int .i64 80, .int .u64 1, .int .u64 8, .int .u64 7, .int .u64 19, .int .u64 61, .int .u64 6, .int .u64 14, .int .u64 18, .int .u64 41, .int .u64 28, .int .u64 34, .int .u64 39] 52)))
  have hR := blk_old (o := .cells #[.int .u64 0, .int .u64 0, .int .u64 0, .int .u64 0, .int .u64 0, .int .u64 0, .int .u64 0, .int .u64 0] 63) (blk_new2 w (.cells #[.int .i64 128, .int .i64 80, .int .u64 1, .int .u64 8, .int .u64 7, .int .u64 19, .int .u64 61, .int .u64 6, .int .u64 14, .int .u64 18, .int .u64 41, .int .u64 28, .int .u64 34, .int .u64 39] 52) (.cells st.cells64 63))
  have hA := blk_new3 w (.cells #[.int .i64 128, .int .i64 80, .int .u64 1, .int .u64 8, .int .u64 7, .int .u64 19, .int .u64 61, .int .u64 6, .int .u64 14, .int .u64 18, .int .u64 41, .int .u64 28, .int .u64 34, .int .u64 39] 52) (.cells st.cells64 63) (.cells #[.int .u64 0, .int .u64 0, .int .u64 0, .int .u64 0, .int .u64 0, .int .u64 0, .int .u64 0, .int .u64 0] 63)
  have hB := below_new3 w (.cells #[.int .i64 128, .int .i64 80, .int .u64 1, .int .u64 8, .int .u64 7, .int .u64 19, .int .u64 61, .int .u64 6, .int .u64 14, .int .u64 18, .int .u64 41, .int .u64 28, .int .u64 34, .int .u64 39] 52) (.cells st.cells64 63) (.cells #[.int .u64 0, .int .u64 0, .int .u64 0, .int .u64 0, .int .u64 0, .int .u64 0, .int .u64 0, .int .u64 0] 63)
  generalize (((w.alloc _).alloc _).alloc _) = W at *
  have hlow := hK.lt
  have hK1 := hK.below hB hlow
  generalize hBB : w.heap.size = B at *
  have HBB := Lib.hid hBB
  clear hBB hK
  refine (schedule64_any s _ hs hs').mono ?_
  rintro e w1 ⟨rfl, hb1⟩
  have hlen : (sch64 (wds64 s.data.toList) 64).length = 80 := by rw [sch64_length _ (wds64_length _)]
  have HC := Lib.hid (show comp64 (fun t => K t) st s.data.toList = add64 st (rnds64 (fun t => K t) (fun t => (sch64 (wds64 s.data.toList) 64).getD t 0) st 80) from rfl)
  generalize hOut : comp64 (fun t => K t) st s.data.toList = out at *
  have HOut := Lib.hid hOut
  clear hOut
  generalize sch64 (wds64 s.data.toList) 64 = ws at *
  have hsz := pad80_64_size ws (by omega)
  have hi := Hz.out.2
  have HI := Lib.hid (show (Tryd.prog.info? 92).map (·.size) = some (pad80_64 ws).size from by rw [hsz]; exact hi)
  have HO := Lib.hid (show (pad80_64 []).size = (pad80_64 ws).size from by rw [hsz, pad80_64_size _ (by simp)])
  have H1 := Lib.hid (pad80_64_one ws (by omega))
  have hz := Hz.out.1
  have HL := Lib.hid hlen
  clear hsz hi hlen
  have hg1 := blk_below hb1 (blk_lt hA) hA
  have hinv : CInv64 K w ((w1.alloc (.cells (pad80_64 []) 92)).setRow w1.heap.size (pad80_64 ws)) B w1.heap.size st.cells64 (pad80_64 ws) := by
    have l1 := blk_lt hg1
    have ne : ∀ k, k < B + 1 + 1 + 1 → k ≠ w1.heap.size := fun k hk => by omega
    refine ⟨?_, ?_, ?_, ?_, ?_, by omega, ?_, by omega⟩
    · exact (setRow_other _ _ _ _ (ne _ (by omega))).trans (blk_old (blk_below hb1 (blk_lt hP) hP))
    · exact (setRow_other _ _ _ _ (ne _ (by omega))).trans (blk_old (blk_below hb1 (blk_lt hR) hR))
    · exact (setRow_other _ _ _ _ (ne _ (by omega))).trans (blk_old hg1)
    · exact setRow_heap _ _ _ _ _ _ (blk_new w1 _)
    · have h1 := hK1.below hb1 hK1.lt
      exact fun t ht => (cell_setRow_other _ _ _ _ (by simp; omega)).trans ((below_new w1 _).cell (by simp; omega) |>.trans (h1 t ht))
    · exact below_setRow ((hB.trans (hb1.mono (Nat.le_of_lt (blk_lt hP)))).alloc (by omega) _) (by omega) _
  have HG := Lib.hid (blk_new w1 (.cells (pad80_64 []) 92))
  clear hP hR hA hB hb1 hK1 hg1
  go_wp2_with (with_reducible refine wpList_store_row rfl 92 _ _ rfl w1.heap.size (pad80_64 ws) rfl rfl 92 _ HG.out HI.out HO.out H1.out ?_)
  clear Hz HG HI HO H1 hz
  generalize (w1.alloc (.cells (pad80_64 []) 92)).setRow w1.heap.size (pad80_64 ws) = W2 at *
  generalize w1.heap.size = G at *
  simp only [Act.put]
  have HV := Lib.hid hinv
  clear hinv
  -- the bits of a word, and how many are left out
  · obtain ⟨c0, c1, c2, c3, c4, c5, c6, c7, c8, c9, c10, c11, c12, c13⟩ := HV.out.prm.cells
    have k0 := cell_regrown c0; have k1 := cell_regrown c1; have k2 := cell_regrown c2; have k3 := cell_regrown c3; have k4 := cell_regrown c4
    have k5 := cell_regrown c5; have k6 := cell_regrown c6; have k7 := cell_regrown c7; have k8 := cell_regrown c8; have k9 := cell_regrown c9
    have k10 := cell_regrown c10; have k11 := cell_regrown c11; have k12 := cell_regrown c12; have k13 := cell_regrown c13
    refine wp_region_reads (by kernel_rfl) (by kernel_rfl) ?_
    repeat (quiet_step (first | (go_at_call 51; exact Calls.regrown_of (unused512 _)) | (go_at_call 54; exact Calls.regrown_of (wordBits512 _))))
    refine wpQuiet_nil ?_
    intro W3 hb3
    replace HV := Lib.hid (HV.out.step hb3)
    clear k0 k1 k2 k3 k4 k5 k6 k7 k8 k9 k10 k11 k12 k13 c0 c1 c2 c3 c4 c5 c6 c7 c8 c9 c10 c11 c12 c13 hb3
    go_wp2_with fail
    -- the words of the state
    obtain ⟨c0, c1, c2, c3, c4, c5, c6, c7⟩ := HV.out.state
    have k0 := cell_regrown c0; have k1 := cell_regrown c1; have k2 := cell_regrown c2; have k3 := cell_regrown c3
    refine wp_region_reads (by kernel_rfl) (by kernel_rfl) ?_
    repeat (first | go_big_quiet_step (fail) | quiet_step (fail))
    refine wpQuiet_nil ?_
    intro W4 hb4
    replace HV := Lib.hid (HV.out.step hb4)
    clear k0 k1 k2 k3 c0 c1 c2 c3 c4 c5 c6 c7 hb4
    go_wp2_with fail
    obtain ⟨c0, c1, c2, c3, c4, c5, c6, c7⟩ := HV.out.state
    have k4 := cell_regrown c4; have k5 := cell_regrown c5; have k6 := cell_regrown c6; have k7 := cell_regrown c7
    refine wp_region_reads (by kernel_rfl) (by kernel_rfl) ?_
    repeat (first | go_big_quiet_step (fail) | quiet_step (fail))
    refine wpQuiet_nil ?_
    intro W5 hb5
    replace HV := Lib.hid (HV.out.step hb5)
    clear k4 k5 k6 k7 c0 c1 c2 c3 c4 c5 c6 c7 hb5
    have c1 := HV.out.prm.cells.2.1
    go_wp2_with fail
    clear c1
    go_loopw [10, 11, 12, 13, 14, 15, 16, 17, 49] (fun a b c d e f g h i wr => ∃ (t : Nat) (r : W8), t ≤ 80 ∧ i = .int .i64 t ∧ Hid (rnds64 (fun t => K t) (fun t => ws.getD t 0) st t = r) ∧
        a = .int .u64 r.a ∧ b = .int .u64 r.b ∧ c = .int .u64 r.c ∧ d = .int .u64 r.d ∧ e = .int .u64 r.e ∧ f = .int .u64 r.f ∧ g = .int .u64 r.g ∧ h = .int .u64 r.h ∧ CInv64 K w wr B G st.cells64 (pad80_64 ws)) (fun _ _ _ _ _ _ _ _ i _ => 80 - (intOf i).toNat)
    case atStart => exact ⟨0, st, by omega, rfl, Lib.hid rfl, rfl, rfl, rfl, rfl, rfl, rfl, rfl, rfl, HV.out⟩
    case round =>
      clear HV
      obtain ⟨t, ⟨xa, xb, xc, xd, xe, xf, xg, xh⟩, ht, rfl, HR, rfl, rfl, rfl, rfl, rfl, rfl, rfl, rfl, hv⟩ := hrel
      have HV := Lib.hid hv
      clear hv
      by_cases hlt : t < 80
      · have hd : decide ((t : Int) < 80) = true := by simp; omega
        have ck := HV.out.tab t (by omega)
        have cw : wr.cell? ⟨G, t, none⟩ = some (.int .u64 (ws.getD t 0)) := by rw [cell_of_row wr _ _ _ _ _ HV.out.wds]; exact pad80_64_get _ _ (by have := HL.out; omega)
        obtain ⟨c0, c1, c2, c3, c4, c5, c6, c7, c8, c9, c10, c11, c12, c13⟩ := HV.out.prm.cells
        clear c0 c1 c2 c3 c4 c5 c6 c7
        have HS := Lib.hid (show rnds64 (fun t => K t) (fun t => ws.getD t 0) st (t + 1) = rnd64 ⟨xa, xb, xc, xd, xe, xf, xg, xh⟩ (K t) (ws.getD t 0) from by rw [rnds64, HR.out])
        generalize ws.getD t 0 = xw at *
        generalize K t = xk at *
        go_wp2_with fail
        have k8 := cell_regrown c8; have k9 := cell_regrown c9; have k10 := cell_regrown c10; have kw := cell_regrown cw
        refine wp_region_reads (by kernel_rfl) (by kernel_rfl) ?_
        repeat (first | go_big_quiet_step ((go_at_call 66; exact Calls.regrown_of (rotations64_any _ _ _ _ _ (by omega) (by omega) (by omega) (by omega) (by omega) (by omega)))) | quiet_step ((go_at_call 66; exact Calls.regrown_of (rotations64_any _ _ _ _ _ (by omega) (by omega) (by omega) (by omega) (by omega) (by omega)))))
        refine wpQuiet_nil ?_
        intro W6 hb6
        replace HV := Lib.hid (HV.out.step hb6)
        clear ck cw c8 c9 c10 c11 c12 c13 k8 k9 k10 kw hb6
        obtain ⟨c0, c1, c2, c3, c4, c5, c6, c7, c8, c9, c10, c11, c12, c13⟩ := HV.out.prm.cells
        clear c0 c1 c2 c3 c4 c5 c6 c7 c8 c9 c10
        go_wp2_with fail
        refine (rotations64_any _ _ _ _ _ (by omega) (by omega) (by omega) (by omega) (by omega) (by omega)).mono ?_
        rintro e W7 ⟨rfl, hb7⟩
        replace HV := Lib.hid (HV.out.step hb7)
        clear c11 c12 c13 hb7
        go_wp2_with fail
        go_roundw
        case rel => 
          refine ⟨t + 1, rnd64 ⟨xa, xb, xc, xd, xe, xf, xg, xh⟩ xk xw, by omega, by go_num, HS, ?_, rfl, rfl, rfl, ?_, rfl, rfl, rfl, HV.out⟩
          · simp only [rnd64]
          · simp only [rnd64]
        case measure => simp [intOf]; omega
      · have hd : decide ((t : Int) < 80) = false := by simp; omega
        obtain rfl : t = 80 := by omega
        go_wp2_with fail
        have HX := Lib.hid (index8_64 ⟨xa, xb, xc, xd, xe, xf, xg, xh⟩)
        go_loopw [118] (fun i wr => ∃ k : Nat, k ≤ 8 ∧ i = .int .i64 k ∧ CInv64 K w wr B G (mix64 st ⟨xa, xb, xc, xd, xe, xf, xg, xh⟩ k) (pad80_64 ws)) (fun i _ => 8 - (intOf i).toNat)
        case atStart => exact ⟨0, by omega, rfl, HV.out⟩
        case round =>
          clear HV hd
          obtain ⟨k, hk, rfl, hv⟩ := hrel
          have HV := Lib.hid hv
          clear hv
          by_cases hk8 : k < 8
          · have hd : decide ((k : Int) < 8) = true := by simp; omega
            have hix : ∀ w, (Instr.index 63 (.agg #[.int .u64 xa, .int .u64 xb, .int .u64 xc, .int .u64 xd, .int .u64 xe, .int .u64 xf, .int .u64 xg, .int .u64 xh]) (.int .i64 (k : Int))).run Tryd.prog w = .ok (.int .u64 (W8.at ⟨xa, xb, xc, xd, xe, xf, xg, xh⟩ k)) w := fun w => HX.out w k hk8
            have cs : wr.cell? ⟨B + 1, k, none⟩ = some (.int .u64 (st.at k)) := by rw [cell_of_row wr _ _ _ _ _ HV.out.row]; exact mix64_get _ _ _ hk8
            have fs : wr.frozen? ⟨B + 1, k, none⟩ = false := frozen_of_row wr _ _ _ _ HV.out.row
            go_wp2_with fail
            go_roundw
            case rel =>
              refine ⟨k + 1, by omega, by go_num, ?_⟩
              have h := HV.out
              have l1 := h.lt
              have l0 := h.low
              refine ⟨?_, ?_, ?_, ?_, ?_, l0, h.bel.setCell (by simp) _, l1⟩
              · exact (heap_setCell_other _ _ _ _ (by simp)).trans h.prm
              · rw [← mix64_set _ _ _ hk8]; exact heap_setCell_same _ _ _ _ _ _ h.row
              · exact (heap_setCell_other _ _ _ _ (by simp)).trans h.res
              · exact (heap_setCell_other _ _ _ _ (by simp; omega)).trans h.wds
              · exact fun t ht => (World.cell?_setCell_far _ _ _ _ (by simp; omega)).trans (h.tab t ht)
            case measure => simp [intOf]; omega
          · have hd : decide ((k : Int) < 8) = false := by simp; omega
            obtain rfl : k = 8 := by omega
            have hrow := HV.out.row
            rw [mix64_eight] at hrow
            have HRow := Lib.hid hrow
            have HRes := Lib.hid HV.out.res
            have HI := Lib.hid (show (Tryd.prog.info? 63).map (·.size) = some out.cells64.size from (zero_of_info info8_64).2)
            have HO8 := Lib.hid (show (#[.int .u64 0, .int .u64 0, .int .u64 0, .int .u64 0, .int .u64 0, .int .u64 0, .int .u64 0, .int .u64 0] : Array Value).size = out.cells64.size from rfl)
            have H18 := Lib.hid (show out.cells64.all (·.oneCell') = true from by simp [Value.oneCell'])
            have HO : Hid (out = add64 st ⟨xa, xb, xc, xd, xe, xf, xg, xh⟩) := Lib.hid (by rw [HC.out, HR.out])
            rw [← HO.out] at HRow
            clear hrow hd
            go_wp2_with (first
              | (with_reducible refine wpList_load_row rfl 63 _ rfl (B + 1) rfl 63 _ (0, 0) (.array 8 48) HRow.out Tryd.underlying63 rfl HI.out ?_)
              | (with_reducible refine wpList_store_row rfl 63 _ _ rfl (B + 1 + 1) out.cells64 rfl rfl 63 _ HRes.out HI.out HO8.out H18.out ?_))
            exact bodyPost_ret (v := .agg out.cells64) (results_cell_row (by rfl) _ _ (B + 1 + 1) 63 _ (0, 0) (.array 8 48) rfl (setRow_heap _ _ _ _ _ _ HRes.out) Tryd.underlying63 rfl HI.out) rfl ⟨by rw [HOut.out], by rw [HBB.out]; exact below_setRow HV.out.bel (by omega) _⟩
end Go.Proofs.YthcfolefdalaiaaDoor
