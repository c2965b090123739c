/- The reference's table. -/
import Derived.Test.YtoejkiblampecaaDoorAesRef
import Derived.Test.YtoejkiblampecaaDoorTail
namespace Go.Proofs.YtoejkiblampecaaDoor
open Go.RowKit Go.Sort
set_option maxRecDepth 100000
set_option linter.unusedSimpArgs false
set_option linter.unusedVariables false

theorem ainfo_int : (Tryd.prog.info? 3).map (fun i => (i.zero, i.size, i.bytes)) = some (some (.int .i64 0), 1, 8) := by kernel_rfl
/-- The powers of 3, as cells. -/
def p3V (n : Nat) : List Value := (List.range n).map fun i => Value.int .i64 ((p3 i : Nat) : Int)
theorem p3V_length (n : Nat) : (p3V n).length = n := by simp [p3V]
theorem p3V_snoc (n : Nat) : p3V n ++ [.int .i64 ((p3 n : Nat) : Int)] = p3V (n + 1) := by simp [p3V, List.range_succ]
theorem p3V_get (n j : Nat) (h : j < n) : (p3V n)[j]? = some (.int .i64 ((p3 j : Nat) : Int)) := by simp [p3V, h]
theorem p3_lt (k : Nat) (h : k < 255) : p3 k < 256 := by simpa using List.all_eq_true.1 p3_all k (List.mem_range.2 h)
theorem tabS_length : ∀ k, (tabS k).length = 256
  | 0 => by rw [tabS, List.length_set, List.length_replicate]
  | k + 1 => by rw [tabS, List.length_set, tabS_length k]
theorem stN_lt (v : Nat) (h : v < 256) : stN v < 256 := stS_lt v h 5
def zeros256 : Array Value := bcells (List.replicate 256 0)
theorem make256 (W : World) : (Instr.makeSlice 31 (.int .i64 256) (.int .i64 256)).run Tryd.prog W = .ok (.slice (some ⟨W.heap.size, 0, none⟩) 256 256) (W.alloc (.cells zeros256 5)) := by
  obtain ⟨i0, hi, hz0, hz1, hz2⟩ := info_parts info_u8
  have h := run_make (P := Tryd.prog) W 31 5 i0 (.int .u8 0) Tryd.underlying31 hi hz0 .i64 .i64 256 256 (by omega) (by omega) (by rw [hz2]; omega) (by omega)
  have e : madeCells (Value.int .u8 0).cells ((256 : Int).toNat * i0.size) = zeros256 := by rw [hz1, made_zero]; rfl
  rw [e] at h
  exact h

set_option maxHeartbeats 2000000 in
theorem table_any (w : World) :
    Calls Tryd.prog 37 #[] w fun e w' => (∃ G, e = .returned (.slice (some ⟨G, 0, none⟩) 256 256) ∧ w.heap.size ≤ G ∧ w'.heap[G]? = some (.cells (bcells tabL) 5)) ∧ Below w.heap.size w w' := by
  obtain ⟨i0, hi, hz0, hz1, hz2⟩ := info_parts ainfo_int
  go_enter Tryd.func37, Tryd.ntmps37
  go_wp2_with fail
  generalize hBB : w.heap.size = B at *
  have HBB := Lib.hid hBB
  have hszB : B ≤ w.heap.size := by omega
  clear hBB
  go_loopw [1, 2, 3] (fun v x i wr => ∃ (k : Nat) (ao : Option Addr) (cap : Nat), k ≤ 255 ∧ i = .int .i64 (k : Int) ∧ x = .int .i64 ((p3 k : Nat) : Int) ∧ v = .slice ao k cap ∧ Own wr B (.slice ao k cap) (p3V k) ∧ Below B w wr ∧ B ≤ wr.heap.size) (fun _ _ i _ => 255 - (intOf i).toNat)
  case atStart => exact ⟨0, none, 0, by omega, rfl, rfl, rfl, Own.nil _ _, Below.refl _ _, hszB⟩
  case round =>
    obtain ⟨k, ao, cap, hk, rfl, rfl, rfl, hown, hb, hsz⟩ := hrel
    have HO := Lib.hid hown
    have HL := Lib.hid (p3V_length k)
    clear hown
    by_cases hlt : k < 255
    · have hd : decide ((k : Int) < 255) = true := by simp; omega
      have HT := Lib.hid (fun W => refTimes_any (p3 k) 3 W (p3_lt k hlt) (by omega))
      rw [show tm (p3 k) 3 = p3 (k + 1) from rfl] at HT
      have HN := Lib.hid (p3V_snoc k)
      go_wp2_with (at_builtin; refine wpList_append_sl rfl (.tmp 10) (.tmp 12) 80 rfl B 3 i0 (.int .i64 0) 8 Tryd.underlying80 hi hz0 hz1 hz2 rfl ao k cap _ rfl (HO.out.alloc _) HL.out ⟨wr.heap.size, 0, none⟩ 1 1 [.int .i64 ((p3 k : Nat) : Int)] rfl rfl (cell_one_new _ _ _) ?b2 ?b3 ?b4 ?b5 ?_)
      case b2 => intro u hu; simp at hu; subst hu; rfl
      case b3 => omega
      case b4 => omega
      case b5 => simp; omega
      intro ao5 cp5 W5 hown5 hgrow5
      have hb5 : Below B w W5 := below_append (hb.alloc hsz _) (by simp; omega) (HO.out.alloc _) hgrow5
      have hsz5 : B ≤ W5.heap.size := by have := hgrow5.size; simp at this; omega
      rw [HN.out] at hown5
      clear hgrow5 HO hb
      go_wp2_with fail
      refine (HT.out _).mono ?_
      rintro e W6 ⟨rfl, rfl⟩
      go_wp2_with fail
      go_roundw
      case rel => exact ⟨k + 1, ao5, cp5, by omega, by go_num, rfl, rfl, hown5, hb5, hsz5⟩
      case measure => simp [intOf]; omega
    · have hd : decide ((k : Int) < 255) = false := by simp; omega
      obtain rfl : k = 255 := by omega
      obtain ⟨g, gc, hv, hown, hgl⟩ := HO.out.some (by rw [HL.out]; omega)
      have hv2 : Value.slice ao 255 cap = .slice (some ⟨g, 0, none⟩) 255 gc := by rw [hv, HL.out]
      injection hv2 with h1 h2 h3
      subst h1 h3
      have hmk := make256
      have HPc := Lib.hid (fun j (hj : j < 255) => hown.cells j _ (p3V_get 255 j hj))
      have HG0 := Lib.hid (blk_new wr (.cells zeros256 5))
      have hgB : g ≠ wr.heap.size := by omega
      have HG1 := Lib.hid (show (wr.alloc (.cells (zeros256.setIfInBounds 0 (.int .u8 99)) 5)).heap[wr.heap.size]? = some (.cells (bcells (tabS 0)) 5) from by rw [show (zeros256.setIfInBounds 0 (.int .u8 99)) = bcells (tabS 0) from bcells_set _ 0 99]; exact blk_new _ _)
      have hc0 := bcell_at HG0.out 0 (by rw [List.length_replicate]; omega)
      have hf0 := frozen_of_row (wr.alloc (.cells zeros256 5)) wr.heap.size 0 _ _ HG0.out
      have hb2 : Below wr.heap.size wr (wr.alloc (.cells (zeros256.setIfInBounds 0 (.int .u8 99)) 5)) := below_new wr _
      have HPc2 := Lib.hid (fun j (hj : j < 255) => (hb2.cell (p := ⟨g, j, none⟩) hgl).trans (HPc.out j hj))
      have hb3 := hb.trans (hb2.mono hsz)
      clear hown HPc HO HL hb2 hb
      go_wp2_with fail
      clear hmk hc0 hf0 HG0
      have hgl' := hgl
      generalize World.alloc wr (.cells (zeros256.setIfInBounds 0 (.int .u8 99)) 5) = W2 at *
      generalize hGG : wr.heap.size = G at *
      clear hGG
      go_loopw [5] (fun i ws => ∃ k : Nat, k ≤ 255 ∧ i = .int .i64 (k : Int) ∧ ws.heap[G]? = some (.cells (bcells (tabS k)) 5) ∧ (∀ j, j < 255 → ws.cell? ⟨g, j, none⟩ = some (.int .i64 ((p3 j : Nat) : Int))) ∧ Below B w ws) (fun i _ => 255 - (intOf i).toNat)
      case atStart => exact ⟨0, by omega, rfl, HG1.out, HPc2.out, hb3⟩
      case round =>
        clear HG1 HPc2 hb3
        obtain ⟨k, hk, rfl, hg, hp, hb⟩ := hrel
        have HG := Lib.hid hg; have HP := Lib.hid hp
        clear hg hp
        by_cases hlt : k < 255
        · have hd2 : decide ((k : Int) < 255) = true := by simp; omega
          have hm : (255 - k) % 255 < 255 := Nat.mod_lt _ (by omega)
          have c1 := HP.out k hlt
          have c2 := HP.out ((255 - k) % 255) hm
          have l1 := p3_lt k hlt
          have l2 := p3_lt ((255 - k) % 255) hm
          have HN : Hid (tabS (k + 1) = (tabS k).set (p3 k) (UInt8.ofNat (stN (p3 ((255 - k) % 255))))) := Lib.hid rfl
          have HTL := Lib.hid (tabS_length k)
          have HSt := Lib.hid (fun W => stirred_any (p3 ((255 - k) % 255)) W l2)
          have hsl := stN_lt _ l2
          have e1 : IntKind.i64.wrap (255 - (k : Int)) = 255 - (k : Int) := IntWalk.i64_in _ (by omega)
          have em : (255 - (k : Int)).tmod 255 = (((255 - k) % 255 : Nat) : Int) := by rw [Int.tmod_eq_emod_of_nonneg (by omega)]; omega
          generalize (255 - k) % 255 = m at *
          generalize p3 m = y at *
          generalize p3 k = x at *
          go_wp2_with fail
          have q1 := cell_regrown c1
          have q2 := cell_regrown c2
          refine wp_region_reads_tail 13 (by kernel_rfl) (by kernel_rfl) ?_
          simp only [List.take_succ_cons, List.take_zero, List.drop_succ_cons, List.drop_zero]
          repeat (first | go_big_quiet_step ((exact Calls.regrown_of (HSt.out _))) | quiet_step ((exact Calls.regrown_of (HSt.out _))))
          refine wpQuiet_nil ?_
          intro Y hY
          have hlG := blk_lt HG.out
          have HG2 := Lib.hid (blk_below hY hlG HG.out)
          have HP2 := Lib.hid (fun j (hj : j < 255) => (hY.cell (p := ⟨g, j, none⟩) (block_lt_of_cell (HP.out j hj))).trans (HP.out j hj))
          have hb2 := hb.trans (hY.mono (by have := hb.size; omega))
          have hcx := bcell_at HG2.out x (by rw [HTL.out]; exact l1)
          have hfx := frozen_of_row Y G x _ _ HG2.out
          have hu : (stN y : Int) = ((UInt8.ofNat (stN y)).toNat : Int) := by simp; omega
          have HG3 := Lib.hid (show (Y.setCell ⟨G, x, none⟩ (.int .u8 ((stN y : Nat) : Int))).heap[G]? = some (.cells (bcells (tabS (k + 1))) 5) from by rw [HN.out, hu]; exact bheap_set HG2.out x _)
          clear hY q1 q2 c1 c2 HG HP hb hu HN
          go_wp2_with fail
          go_roundw
          case rel => exact ⟨k + 1, by omega, by go_num, HG3.out, fun j hj => by rw [World.cell?_setCell_other _ _ _ _ (by simp [hgB])]; exact HP2.out j hj, hb2.setCell (by omega) _⟩
          case measure => simp [intOf]; omega
        · have hd2 : decide ((k : Int) < 255) = false := by simp; omega
          obtain rfl : k = 255 := by omega
          go_wp2_with fail
          go_ret
          exact ⟨⟨G, rfl, by rw [HBB.out]; omega, by rw [← tab_full]; exact HG.out⟩, by rw [HBB.out]; exact hb⟩
end Go.Proofs.YtoejkiblampecaaDoor
