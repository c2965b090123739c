/- The reference's Sum256: the digest of 32 bytes, as the program's. The data has at most 2^20 bytes. -/
import Derived.Test.YtjjgakkijhjaiaaDoorShaRa
namespace Go.Proofs.YtjjgakkijhjaiaaDoor
section
open Go.RowKit Go.Sort
set_option maxRecDepth 100000
set_option linter.unusedSimpArgs false
set_option linter.unusedVariables false

set_option maxHeartbeats 12000000 in
set_option maxRecDepth 100000 in
theorem refSum32_any (s : ByteArray) (w : World) (hs : s.size ≤ 1048576) :
    Calls Tryd.prog 31 #[.string s] w fun e w' => e = .returned (.string ⟨(sha256L kf hf s.data.toList).toArray⟩) ∧ Below w.heap.size w w' := by
  obtain ⟨i0, hi, hz0, hz1, hz2⟩ := info_parts info_u32
  go_enter Tryd.func31, Tryd.ntmps31
  go_wp2_with fail
  refine (constants_any _).mono ?_
  rintro e W1 ⟨rfl, rfl⟩
  go_wp2_with fail
  refine (beginnings_any _).mono ?_
  rintro e W2 ⟨rfl, rfl⟩
  have cK : ∀ t, t < 80 → ((w.alloc (.cells (kList.map (Value.int .u64)).toArray 54)).alloc (.cells (hList.map (Value.int .u64)).toArray 54)).cell? ⟨w.heap.size, t, none⟩ = some (.int .u64 (kf t)) := fun t ht => by
    rw [cell_of_row _ _ _ _ _ _ (blk_old (blk_new w _))]
    have hl : t < kList.length := by simpa [kList] using ht
    simp [kf, hl]
  have cH : ∀ t, t < 8 → ((w.alloc (.cells (kList.map (Value.int .u64)).toArray 54)).alloc (.cells (hList.map (Value.int .u64)).toArray 54)).cell? ⟨w.heap.size + 1, t, none⟩ = some (.int .u64 (hf t)) := fun t ht => by
    rw [cell_of_row _ _ _ _ _ _ (blk_new2 w _ _)]
    have hl : t < hList.length := by simpa [hList] using ht
    simp [hf, hl]
  have hB0 := below_new2 w (.cells (kList.map (Value.int .u64)).toArray 54) (.cells (hList.map (Value.int .u64)).toArray 54)
  have hsz0 : ((w.alloc (.cells (kList.map (Value.int .u64)).toArray 54)).alloc (.cells (hList.map (Value.int .u64)).toArray 54)).heap.size = w.heap.size + 2 := by simp
  have CK := Lib.hid cK; have CH := Lib.hid cH; have HS0 := Lib.hid hsz0
  clear cK cH hsz0
  go_wp2_with fail
  generalize ((w.alloc _).alloc _) = W0 at *
  generalize hBB : w.heap.size = B at *
  have HBB := Lib.hid hBB
  clear hBB
  go_loopw [5, 6] (fun v i wr => ∃ (k : Nat) (ao : Option Addr) (cap : Nat), k ≤ 8 ∧ i = .int .i64 k ∧ v = .slice ao k cap ∧ Own wr (B + 2) (.slice ao k cap) (wcells32 (iniL32 hf k)) ∧ Below (B + 2) W0 wr ∧ B + 2 ≤ wr.heap.size) (fun _ i _ => 8 - (intOf i).toNat)
  case atStart => exact ⟨0, none, 0, by omega, rfl, rfl, Own.nil _ _, Below.refl _ _, by rw [HS0.out]; omega⟩
  case round =>
    obtain ⟨k, ao, cap, hk, rfl, rfl, hown, hb, hsz⟩ := hrel
    have HO := Lib.hid hown
    clear hown
    have HL := Lib.hid (show (wcells32 (iniL32 hf k)).length = k from by rw [wcells32_length]; simp [iniL32])
    by_cases hk8 : k < 8
    · have hd : decide ((k : Int) < 8) = true := by simp; omega
      have ck : wr.cell? ⟨B + 1, k, none⟩ = some (.int .u64 (hf k)) := (hb.cell (by simp)).trans (CH.out k hk8)
      have HSn := Lib.hid (iniL32_snoc hf k)
      generalize hf k = x at *
      go_wp2_with (at_builtin; refine wpList_append_sl rfl (.tmp 27) (.tmp 34) 53 rfl (B + 2) 45 i0 (.int .u32 0) 4 Tryd.underlying53 hi hz0 hz1 hz2 rfl ao k cap _ rfl (HO.out.alloc _) HL.out ⟨wr.heap.size, 0, none⟩ 1 1 [.int .u32 (x / 4294967296 % 4294967296)] rfl rfl (cell_one_new _ _ _) ?a2 ?a3 ?a4 ?a5 ?_)
      case a2 => intro u hu; simp at hu; subst hu; rfl
      case a3 => omega
      case a4 => omega
      case a5 => simp; omega
      intro ao1 cap1 W1 hown1 hgrow1
      have hb1 : Below (B + 2) W0 W1 := below_append (hb.alloc hsz _) (by simp; omega) (HO.out.alloc _) hgrow1
      have hsz1 : B + 2 ≤ W1.heap.size := by have := hgrow1.size; simp at this; omega
      rw [wcells32_snoc, ← HSn.out] at hown1
      clear hgrow1 HO hb hsz ck
      go_wp2_with fail
      go_roundw
      case rel => exact ⟨k + 1, ao1, cap1, by omega, by go_num, rfl, hown1, hb1, hsz1⟩
      case measure => simp [intOf]; omega
    · have hd : decide ((k : Int) < 8) = false := by simp; omega
      obtain rfl : k = 8 := by omega
      obtain ⟨Hb, capH, hv, hoH, hHlt⟩ := HO.out.some (by rw [HL.out]; omega)
      rw [HL.out] at hv
      cases hv
      have hcK : ∀ t, t < 80 → wr.cell? ⟨B, t, none⟩ = some (.int .u64 (kf t)) := fun t ht => (hb.cell (by simp)).trans (CK.out t ht)
      have HO8 := Lib.hid hoH; have HcK := Lib.hid hcK
      clear HO HL hd hoH hcK CK CH
      go_wp2_with fail
      refine (full64_any s wr hs).mono ?_
      rintro e W3 ⟨aoS, capS, rfl, hoS, hb3⟩
      obtain ⟨nb, hnb, hnb0⟩ := pad_blocks64 s.size
      have hLl : (s.data.toList ++ padL 64 8 s.size).length = 64 * nb := by rw [List.length_append, ← Lib.size_eq]; exact hnb
      have HE := Lib.hid (show sha256L kf hf s.data.toList = dig32 (fold32 (fun t => kf t / 4294967296) (init32 hf) (s.data.toList ++ padL 64 8 s.size) nb) from by
        rw [sha256L, full32, ← Lib.size_eq, hLl]; congr 2; omega)
      generalize hL : s.data.toList ++ padL 64 8 s.size = L at *
      have hcl : (Lib.byteCells L).length = 64 * nb := by rw [Lib.byteCells_length]; exact hLl
      rw [hnb] at hoS
      rw [hnb]
      obtain ⟨Sb, capS', hv, hSS, hSlt⟩ := hoS.some (by omega)
      rw [hcl] at hv
      cases hv
      have hnbb : 64 * nb ≤ 2097152 := by
        have h1 : (padL 64 8 s.size).length ≤ 100 := by
          have : ((2 * 64 - (s.size % 64 + 1 + 8)) % 64) < 64 := Nat.mod_lt _ (by omega)
          simp [padL, be_length]; omega
        omega
      have hinv : RInv32 W3 W3 B Hb Sb (init32 hf) L := by
        have h8 := HO8.out
        have hbs := h8.base
        refine ⟨fun t ht => (hb3.cell (block_lt_of_cell (HcK.out t ht))).trans (HcK.out t ht), fun j hj => ?_, fun j hj => ?_, fun j x hx => ?_, But.refl _ _, by omega, Nat.lt_of_lt_of_le hHlt hb3.size, hSlt, ?_⟩
        · refine (hb3.cell hHlt).trans (h8.cells j _ ?_)
          rcases lt8 hj with rfl | rfl | rfl | rfl | rfl | rfl | rfl | rfl <;> rfl
        · exact (hb3.frozen hHlt).trans (h8.room j (by have := h8.le; rw [wcells32_length] at this; simp [iniL32] at this; omega)).2
        · exact hSS.cells j _ (by simp [Lib.byteCells, hx])
        · have := hSS.base; omega
      have hB3 : Below B w W3 := by
        have h1 : Below B w wr := hB0.trans (hb.mono (by omega))
        exact h1.trans (hb3.mono (by omega))
      have HV := Lib.hid hinv; have HLl := Lib.hid hLl
      clear hinv hSS hoS hb3 HO8 HcK hL hcl hnb hb hsz hB0 hSlt hHlt hLl HS0
      generalize hE : W3.heap.size = E at *
      have HEq := Lib.hid hE
      clear hE
      go_wp2_with fail
      go_loopw [8] (fun at_ wr => ∃ (i a : Nat), i ≤ nb ∧ Hid (a = 64 * i) ∧ at_ = .int .i64 (a : Int) ∧ RInv32 W3 wr B Hb Sb (fold32 (fun t => kf t / 4294967296) (init32 hf) L i) L) (fun at_ _ => 64 * nb - (intOf at_).toNat)
      case atStart => exact ⟨0, 0, by omega, Lib.hid rfl, rfl, HV.out⟩
      case round =>
        clear HV
        obtain ⟨i, a, hin, HA, rfl, hv⟩ := hrel
        have HV := Lib.hid hv
        clear hv
        by_cases hlt : i < nb
        · have ha64 : (a : Int) + 64 ≤ 64 * (nb : Int) := by have := HA.out; omega
          have hd : decide ((a : Int) < 64 * (nb : Int)) = true := by simp; omega
          have HWS := Lib.hid (show ((L.drop a).take 64).length = 64 from by have := HLl.out; rw [List.length_take, List.length_drop]; omega)
          generalize hst : fold32 (fun t => kf t / 4294967296) (init32 hf) L i = st at *
          have HST := Lib.hid hst
          clear hst
          generalize hws : sch32 (wds32 ((L.drop a).take 64)) 48 = ws at *
          have HWW := Lib.hid hws
          have HWL := Lib.hid (show ws.length = 64 from by rw [← hws, sch32_length _ (wds32_length _)])
          clear hws
          go_wp2_with fail
          go_loopw [9, 10] (fun v t wr => ∃ (k : Nat) (ao : Option Addr) (cp : Nat), k ≤ 64 ∧ t = .int .i64 k ∧ v = .slice ao k cp ∧ Own wr E (.slice ao k cp) (wcells32 (ws.take k)) ∧ RInv32 W3 wr B Hb Sb st L ∧ E ≤ wr.heap.size) (fun _ t _ => 64 - (intOf t).toNat)
          case atStart => exact ⟨0, none, 0, by omega, rfl, rfl, Own.nil _ _, HV.out, by rw [← HEq.out]; exact HV.out.but.size⟩
          case round =>
            clear HV
            obtain ⟨k, ao, cp, hk, rfl, rfl, hown, hv, hsz⟩ := hrel
            have HV := Lib.hid hv; have HO := Lib.hid hown
            clear hv hown
            have HL := Lib.hid (show (wcells32 (ws.take k)).length = k from by rw [wcells32_length, List.length_take, HWL.out]; omega)
            by_cases hk64 : k < 64
            · have hd : decide ((k : Int) < 64) = true := by simp; omega
              by_cases hk16 : k < 16
              · have hd16 : decide ((k : Int) < 16) = true := by simp; omega
                have hp0 : (0 : Int) ≤ (a : Int) + 4 * (k : Int) := by omega
                have hp1 : (a : Int) + 4 * (k : Int) + 3 < 64 * (nb : Int) := by omega
                have hcS : ∀ q, q < 4 → ∃ x : UInt8, L[a + 4 * k + q]? = some x ∧ wr.cell? ⟨Sb, a + 4 * k + q, none⟩ = some (.int .u8 x.toNat) := fun q hq => by
                  have hl : a + 4 * k + q < L.length := by have := HLl.out; omega
                  exact ⟨L[a + 4 * k + q], List.getElem?_eq_getElem hl, HV.out.s _ _ (List.getElem?_eq_getElem hl)⟩
                obtain ⟨x0, l0, s0⟩ := hcS 0 (by omega)
                obtain ⟨x1, l1, s1⟩ := hcS 1 (by omega)
                obtain ⟨x2, l2, s2⟩ := hcS 2 (by omega)
                obtain ⟨x3, l3, s3⟩ := hcS 3 (by omega)
                rw [Nat.add_zero] at s0 l0
                have L0 := Lib.hid l0; have L1 := Lib.hid l1; have L2 := Lib.hid l2; have L3 := Lib.hid l3
                clear hcS l0 l1 l2 l3
                go_wp2_with fail
                have k0 := cell_regrown s0; have k1 := cell_regrown s1; have k2 := cell_regrown s2; have k3 := cell_regrown s3
                refine wp_region_moves_tail 30 _ rfl rfl rfl (by kernel_rfl) (by kernel_rfl) (fun _ _ _ _ h => h) ?_
                simp only [Nat.reduceSub, List.take_succ_cons, List.take_zero, List.drop_succ_cons, List.drop_zero]
                dsimp only [Act.put, Act.eval]
                repeat (first | go_big_quiet_step (fail) | quiet_step (fail))
                refine wpQuiet_nil ?_
                intro W4 hb4
                clear k0 k1 k2 k3
                have hsz4 := hb4.size
                have HO4 := Lib.hid (HO.out.below hb4)
                have hbE : Below E wr W4 := hb4.mono hsz
                go_wp2_with (at_builtin; refine wpList_append_sl rfl (.tmp 54) (.tmp 84) 53 rfl E 45 i0 (.int .u32 0) 4 Tryd.underlying53 hi hz0 hz1 hz2 rfl ao k cp _ rfl (HO4.out.alloc _) HL.out ⟨W4.heap.size, 0, none⟩ 1 1 [.int .u32 _] rfl rfl (cell_one_new _ _ _) ?b2 ?b3 ?b4 ?b5 ?_)
                case b2 => intro u hu; simp at hu; subst hu; rfl
                case b3 => omega
                case b4 => omega
                case b5 => simp; omega
                intro ao5 cp5 W5 hown5 hgrow5
                have hb5 : Below E wr W5 := below_append (hbE.alloc (by omega) _) (by simp; omega) (HO4.out.alloc _) hgrow5
                have hsz5 : E ≤ W5.heap.size := by have := hgrow5.size; simp at this; omega
                rw [or_bytes32, wcells32_snoc] at hown5
                have hv5 := Lib.hid (HV.out.step (by rw [HEq.out]; exact hb5))
                have HN5 := Lib.hid (show (ws.take k) ++ [ld32 [x0, x1, x2, x3]] = ws.take (k + 1) from by
                  rw [← HWW.out, sch32_take _ (wds32_length _) 48 k hk16, ← four_bytes L a k x0 x1 x2 x3 hk16 L0.out L1.out L2.out L3.out]
                  simp [wds32, hk16])
                rw [HN5.out] at hown5
                clear hgrow5 HO HO4 hb4 hbE s0 s1 s2 s3 hb5
                go_wp2_with fail
                go_roundw
                case rel => exact ⟨k + 1, ao5, cp5, by omega, by go_num, rfl, hown5, hv5.out, hsz5⟩
                case measure => simp [intOf]; omega
              · have hd16 : decide ((k : Int) < 16) = false := by simp; omega
                obtain ⟨Wb, cpW, hvv, hoW, hWlt⟩ := HO.out.some (by rw [HL.out]; omega)
                rw [HL.out] at hvv
                cases hvv
                have hcW : ∀ j, j < k → wr.cell? ⟨Wb, j, none⟩ = some (.int .u32 ((ws.take k).getD j 0)) := fun j hj => hoW.cells j _ (by
                  have hjl : j < (ws.take k).length := by rw [List.length_take, HWL.out]; omega
                  simp only [wcells32, List.getElem?_map, List.getElem?_eq_getElem hjl, Option.map_some, List.getD_eq_getElem?_getD, Option.getD_some])
                have he : ext32 (ws.take k) k = ((ws.take k).getD (k - 16) 0 + (ws.take k).getD (k - 7) 0 + shf3_32 ((ws.take k).getD (k - 15) 0) 7 18 3 + shf3_32 ((ws.take k).getD (k - 2) 0) 17 19 10) % 4294967296 := rfl
                have w16 := hcW (k - 16) (by omega); have w7 := hcW (k - 7) (by omega); have w15 := hcW (k - 15) (by omega); have w2 := hcW (k - 2) (by omega)
                generalize (ws.take k).getD (k - 16) 0 = x16 at *
                generalize (ws.take k).getD (k - 7) 0 = x7 at *
                generalize (ws.take k).getD (k - 15) 0 = x15 at *
                generalize (ws.take k).getD (k - 2) 0 = x2 at *
                have HXE := Lib.hid he
                have HNx := Lib.hid (show (ws.take k) ++ [ext32 (ws.take k) k] = ws.take (k + 1) from by
                  rw [← HWW.out, sch32_take2 _ (wds32_length _) 48 k (by omega) (by omega)])
                clear he hcW hoW
                have e15 : (0 : Int) ≤ (k : Int) - 15 := by omega
                have f15 : (k : Int) - 15 < (k : Int) := by omega
                go_wp2_with fail
                have k15 := cell_regrown w15
                refine wp_region_reads (by kernel_rfl) (by kernel_rfl) ?_
                repeat (first | go_big_quiet_step ((go_at_call 52; exact Calls.regrown_of (right32_any _ _ _ (by omega) (by omega)))) | quiet_step ((go_at_call 52; exact Calls.regrown_of (right32_any _ _ _ (by omega) (by omega)))))
                refine wpQuiet_nil ?_
                intro W4 hb4
                replace w16 := (hb4.cell (block_lt_of_cell w16)).trans w16
                replace w7 := (hb4.cell (block_lt_of_cell w7)).trans w7
                replace w2 := (hb4.cell (block_lt_of_cell w2)).trans w2
                have HO4 := Lib.hid (HO.out.below hb4)
                have hbE4 : Below E wr W4 := hb4.mono hsz
                have hsz4 : E ≤ W4.heap.size := Nat.le_trans hsz hb4.size
                clear k15 w15 hb4 e15 f15
                go_wp2_with fail
                have k2 := cell_regrown w2
                refine wp_region_reads (by kernel_rfl) (by kernel_rfl) ?_
                repeat (first | go_big_quiet_step ((go_at_call 52; exact Calls.regrown_of (right32_any _ _ _ (by omega) (by omega)))) | quiet_step ((go_at_call 52; exact Calls.regrown_of (right32_any _ _ _ (by omega) (by omega)))))
                refine wpQuiet_nil ?_
                intro W5 hb5
                replace w16 := (hb5.cell (block_lt_of_cell w16)).trans w16
                replace w7 := (hb5.cell (block_lt_of_cell w7)).trans w7
                replace HO4 := Lib.hid (HO4.out.below hb5)
                have hbE5 : Below E wr W5 := hbE4.trans (hb5.mono hsz4)
                have hsz5 : E ≤ W5.heap.size := Nat.le_trans hsz4 hb5.size
                clear k2 w2 hb5 hbE4 hsz4
                go_wp2_with fail
                have k16 := cell_regrown w16; have k7 := cell_regrown w7
                refine wp_region_moves_tail 16 _ rfl rfl rfl (by kernel_rfl) (by kernel_rfl) (fun _ _ _ _ h => h) ?_
                simp only [Nat.reduceSub, List.take_succ_cons, List.take_zero, List.drop_succ_cons, List.drop_zero]
                dsimp only [Act.put, Act.eval]
                repeat (first | go_big_quiet_step (fail) | quiet_step (fail))
                refine wpQuiet_nil ?_
                intro W6 hb6
                replace HO4 := Lib.hid (HO4.out.below hb6)
                have hbE6 : Below E wr W6 := hbE5.trans (hb6.mono hsz5)
                have hsz6 : E ≤ W6.heap.size := Nat.le_trans hsz5 hb6.size
                clear k16 k7 w16 w7 hb6 hbE5 hsz5
                go_wp2_with (at_builtin; refine wpList_append_sl rfl (.tmp 126) (.tmp 142) 53 rfl E 45 i0 (.int .u32 0) 4 Tryd.underlying53 hi hz0 hz1 hz2 rfl (some ⟨Wb, 0, none⟩) k cp _ rfl (HO4.out.alloc _) HL.out ⟨W6.heap.size, 0, none⟩ 1 1 [.int .u32 _] rfl rfl (cell_one_new _ _ _) ?e2 ?e3 ?e4 ?e5 ?_)
                case e2 => intro u hu; simp at hu; subst hu; rfl
                case e3 => omega
                case e4 => omega
                case e5 => simp; omega
                intro ao7 cp7 W7 hown7 hgrow7
                have hb7 : Below E wr W7 := below_append (hbE6.alloc (by omega) _) (by simp; omega) (HO4.out.alloc _) hgrow7
                have hsz7 : E ≤ W7.heap.size := by have := hgrow7.size; simp at this; omega
                have hown8 : Own W7 E (.slice ao7 (k + 1) cp7) (wcells32 (ws.take (k + 1))) := by
                  rw [← HNx.out, ← wcells32_snoc, HXE.out]
                  exact hown7
                have hv7 := Lib.hid (HV.out.step (by rw [HEq.out]; exact hb7))
                clear hown7 hgrow7 HO HO4 hbE6 hsz6 hb7
                go_wp2_with fail
                go_roundw
                case rel => exact ⟨k + 1, ao7, cp7, by omega, by go_num, rfl, hown8, hv7.out, hsz7⟩
                case measure => simp [intOf]; omega
            · have hd : decide ((k : Int) < 64) = false := by simp; omega
              obtain rfl : k = 64 := by omega
              obtain ⟨Wb, cpW, hvv, hoW, hWlt⟩ := HO.out.some (by rw [HL.out]; omega)
              rw [HL.out] at hvv
              cases hvv
              have hcW : ∀ j, j < 64 → wr.cell? ⟨Wb, j, none⟩ = some (.int .u32 (ws.getD j 0)) := fun j hj => hoW.cells j _ (by
                have hjl : j < ws.length := by rw [HWL.out]; omega
                rw [List.take_of_length_le (by rw [HWL.out]; omega)]
                simp only [wcells32, List.getElem?_map, List.getElem?_eq_getElem hjl, Option.map_some, List.getD_eq_getElem?_getD, Option.getD_some])
              have HcW := Lib.hid hcW
              have lWE := hoW.base
              clear hcW hoW HO HL
              have hnews : ∀ j u, (wcells32 [st.a, st.b, st.c, st.d, st.e, st.f, st.g, st.h])[j]? = some u → wr.cell? ((⟨Hb, 0, none⟩ : Addr).add j) = some u := fun j u hj => by
                have hj8 : j < 8 := by have := (List.getElem?_eq_some_iff.1 hj).1; simpa [wcells32] using this
                rw [Addr.add_lit, Nat.zero_add, HV.out.h j hj8, ← hj]
                rcases lt8 hj8 with rfl | rfl | rfl | rfl | rfl | rfl | rfl | rfl <;> rfl
              have HNw := Lib.hid hnews
              clear hnews
              go_wp2_with (at_builtin; refine wpList_append_sl rfl (.tmp 144) (.tmp 145) 53 rfl E 45 i0 (.int .u32 0) 4 Tryd.underlying53 hi hz0 hz1 hz2 rfl none 0 0 [] rfl (Own.nil _ _) rfl ⟨Hb, 0, none⟩ 8 cap (wcells32 [st.a, st.b, st.c, st.d, st.e, st.f, st.g, st.h]) rfl rfl HNw.out ?h2 ?h3 ?h4 ?h5 ?_)
              case h2 => intro u hu; simp only [wcells32, List.mem_map] at hu; obtain ⟨_, _, rfl⟩ := hu; rfl
              case h3 => omega
              case h4 => omega
              case h5 => exact hsz
              intro ao5 cp5 W5 hown5 hgrow5
              try simp only [Nat.zero_add, List.nil_append] at hown5
              try simp only [Nat.zero_add]
              have hb5 : Below E wr W5 := (Below.refl E wr).grown hgrow5 hsz (by intro k hk; simp [Value.ownBlock] at hk)
              have hbw5 : Below wr.heap.size wr W5 := (Below.refl _ wr).grown hgrow5 (Nat.le_refl _) (by intro k hk; simp [Value.ownBlock] at hk)
              have hsz5 : E ≤ W5.heap.size := Nat.le_trans hsz hgrow5.size
              obtain ⟨V, cpV, hvv, hoV, hVlt⟩ := hown5.some (by simp [wcells32])
              simp only [wcells32_length, List.length_cons, List.length_nil, Nat.zero_add, Nat.reduceAdd] at hvv
              cases hvv
              have hVI : VInv32 W5 E V Wb st ws := ⟨fun j hj => hoV.cells j _ (by rcases lt8 hj with rfl | rfl | rfl | rfl | rfl | rfl | rfl | rfl <;> rfl), fun j hj => (hbw5.cell (block_lt_of_cell (HcW.out j hj))).trans (HcW.out j hj), hoV.base, lWE⟩
              have HVI := Lib.hid hVI
              replace HV := Lib.hid (HV.out.step (by rw [HEq.out]; exact hb5))
              clear hVI hoV hVlt hown5 hgrow5 hb5 hbw5 HcW HNw hsz hd
              go_wp2_with fail
              refine loop4_32 HEq (by kernel_rfl) HVI.out HV.out hsz5 ?_
              clear HVI HV hsz5
              intro wr V cv ⟨xa, xb, xc, xd, xe, xf, xg, xh⟩ u16 u17 u147 u148 u149 u150 u151 u152 u153 u154 u155 u156 u157 u158 u159 u160 u161 u162 u163 u164 u165 u166 u167 u168 u169 u170 u171 u172 u173 u174 u175 u176 u177 u178 u179 u180 u181 u182 u183 u184 u185 u186 u187 u188 u189 u190 u191 u192 u193 u194 u195 u196 u197 u198 u199 u200 u201 u202 u203 u204 u205 u206 u207 u208 u209 u210 u211 u212 u213 u214 u215 u216 u217 u218 u219 u220 u221 u222 u223 u224 u225 u226 u227 u228 u229 u230 u231 u232 u233 u234 u235 u236 u237 u238 u239 u240 u241 u242 u243 u244 u245 u246 u247 u248 u249 u250 u251 u252 u253 u254 u255 u256 u257 u258 u259 u260 u261 u262 HR hvi hv hsz
              have HVI := Lib.hid hvi; have HV := Lib.hid hv
              clear hvi hv
              have hHE : Hb < E := by rw [← HEq.out]; exact HV.out.lH
              go_wp2_with fail
              go_loopw [18] (fun i wr => ∃ k : Nat, k ≤ 8 ∧ i = .int .i64 k ∧ VInv32 wr E V Wb ⟨xa, xb, xc, xd, xe, xf, xg, xh⟩ ws ∧ RInv32 W3 wr B Hb Sb (mixS st ⟨xa, xb, xc, xd, xe, xf, xg, xh⟩ k) L ∧ E ≤ wr.heap.size) (fun i _ => 8 - (intOf i).toNat)
              case atStart => exact ⟨0, by omega, rfl, HVI.out, HV.out, hsz⟩
              case round =>
                clear HVI HV hsz
                obtain ⟨k, hk, rfl, hvi, hv, hsz⟩ := hrel
                have HVI := Lib.hid hvi; have HV := Lib.hid hv
                clear hvi hv
                by_cases hk8 : k < 8
                · have hd : decide ((k : Int) < 8) = true := by simp; omega
                  obtain ⟨m1, m2, m3⟩ := mixS_at st ⟨xa, xb, xc, xd, xe, xf, xg, xh⟩ k hk8
                  have ch := HV.out.h k hk8
                  have cv' := HVI.out.v k hk8
                  rw [m2] at ch
                  have M1 := Lib.hid m1; have M3 := Lib.hid m3
                  clear m1 m2 m3
                  generalize hy : W8.at ⟨xa, xb, xc, xd, xe, xf, xg, xh⟩ k = y at *
                  generalize hz : st.at k = z at *
                  have HY := Lib.hid hy; have HZ' := Lib.hid hz
                  clear hy hz
                  go_wp2_with fail
                  have q1 := cell_regrown ch; have q2 := cell_regrown cv'
                  refine wp_region_reads_tail 12 (by kernel_rfl) (by kernel_rfl) ?_
                  simp only [List.take_succ_cons, List.take_zero, List.drop_succ_cons, List.drop_zero]
                  repeat (first | go_big_quiet_step (fail) | quiet_step (fail))
                  refine wpQuiet_nil ?_
                  intro W6 hb6
                  replace HVI := Lib.hid (HVI.out.step hb6)
                  replace HV := Lib.hid (HV.out.step (by rw [HEq.out]; exact hb6.mono hsz))
                  have hsz6 : E ≤ W6.heap.size := Nat.le_trans hsz hb6.size
                  clear q1 q2 cv' ch hb6 hsz
                  have ch := HV.out.h k hk8
                  have fh := HV.out.f k hk8
                  go_wp2_with fail
                  go_roundw
                  case rel =>
                    refine ⟨k + 1, by omega, by go_num, HVI.out.set hHE k _, HV.out.set k hk8 _ ?_ M3.out, by simpa [World.setCell] using hsz6⟩
                    rw [M1.out]
                  case measure => simp [intOf]; omega
                · have hd : decide ((k : Int) < 8) = false := by simp; omega
                  obtain rfl : k = 8 := by omega
                  have hfin := HV.out
                  rw [mixS_eight] at hfin
                  have hnext : add32 st ⟨xa, xb, xc, xd, xe, xf, xg, xh⟩ = fold32 (fun t => kf t / 4294967296) (init32 hf) L (i + 1) := by
                    rw [fold32, HST.out, comp32, ← HA.out, HWW.out, HR.out]
                  rw [hnext] at hfin
                  have HF := Lib.hid hfin
                  clear hfin hnext HVI HV
                  go_wp2_with fail
                  go_roundw
                  case rel => exact ⟨i + 1, a + 64, by omega, Lib.hid (by have := HA.out; omega), by go_num, HF.out⟩
                  case measure => simp [intOf]; have := HA.out; omega
        · have hd : decide ((a : Int) < 64 * (nb : Int)) = false := by have := HA.out; simp; omega
          obtain rfl : i = nb := by omega
          generalize hst : fold32 (fun t => kf t / 4294967296) (init32 hf) L i = st at *
          have HST := Lib.hid hst
          clear hst
          obtain ⟨i8, hi8, hy0, hy1, hy2⟩ := info_parts info_u8
          have hszE : E ≤ wr.heap.size := by rw [← HEq.out]; exact HV.out.but.size
          go_wp2_with fail
          go_loopw [19, 20] (fun v t wr => ∃ (k : Nat) (ao : Option Addr) (cp : Nat), k ≤ 8 ∧ t = .int .i64 k ∧ v = .slice ao (4 * k) cp ∧ Own wr E (.slice ao (4 * k) cp) (Lib.byteCells ((dig32 st).take (4 * k))) ∧ RInv32 W3 wr B Hb Sb st L ∧ E ≤ wr.heap.size) (fun _ t _ => 8 - (intOf t).toNat)
          case atStart => exact ⟨0, none, 0, by omega, rfl, rfl, Own.nil _ _, HV.out, hszE⟩
          case round =>
            clear HV hszE hd
            obtain ⟨k, ao, cp, hk, rfl, rfl, hown, hv, hsz⟩ := hrel
            have HV := Lib.hid hv; have HO := Lib.hid hown
            clear hv hown
            have HL := Lib.hid (show (Lib.byteCells ((dig32 st).take (4 * k))).length = 4 * k from by rw [Lib.byteCells_length, List.length_take, dig32_length]; omega)
            by_cases hk8 : k < 8
            · have hd : decide ((k : Int) < 8) = true := by simp; omega
              have ch := HV.out.h k hk8
              have HDf := Lib.hid (dig32_four st k hk8)
              have HB24 := Lib.hid (wbyte_toNat (st.at k) 24); have HB16 := Lib.hid (wbyte_toNat (st.at k) 16); have HB8 := Lib.hid (wbyte_toNat (st.at k) 8); have HB0 := Lib.hid (wbyte_toNat (st.at k) 0)
              generalize st.at k = x at *
              go_wp2_with fail
              have q1 := cell_regrown ch
              refine wp_region_moves_tail 24 _ rfl rfl rfl (by kernel_rfl) (by kernel_rfl) (fun _ _ _ _ h => h) ?_
              simp only [Nat.reduceSub, List.take_succ_cons, List.take_zero, List.drop_succ_cons, List.drop_zero]
              dsimp only [Act.put, Act.eval]
              repeat (first | go_big_quiet_step (fail) | quiet_step (fail))
              refine wpQuiet_nil ?_
              intro W6 hb6
              have HO6 := Lib.hid (HO.out.below hb6)
              have hbE6 : Below E wr W6 := hb6.mono hsz
              have hsz6 : E ≤ W6.heap.size := Nat.le_trans hsz hb6.size
              clear q1 ch hb6
              go_wp2_with (at_builtin; refine wpList_append_sl rfl (.tmp 283) (.tmp 307) 38 rfl E 5 i8 (.int .u8 0) 1 Tryd.underlying38 hi8 hy0 hy1 hy2 rfl ao (4 * k) cp _ rfl (HO6.out.alloc _) HL.out ⟨W6.heap.size, 0, none⟩ 4 4 [_, _, _, _] rfl rfl (four_new _ _ _ _ _ _) ?p2 ?p3 ?p4 ?p5 ?_)
              case p2 => intro u hu; simp only [List.mem_cons, List.not_mem_nil, or_false] at hu; rcases hu with rfl | rfl | rfl | rfl <;> rfl
              case p3 => omega
              case p4 => omega
              case p5 => simp; omega
              intro ao7 cp7 W7 hown7 hgrow7
              have hb7 : Below E wr W7 := below_append (hbE6.alloc (by omega) _) (by simp; omega) (HO6.out.alloc _) hgrow7
              have hsz7 : E ≤ W7.heap.size := by have := hgrow7.size; simp at this; omega
              have hown8 : Own W7 E (.slice ao7 (4 * (k + 1)) cp7) (Lib.byteCells ((dig32 st).take (4 * (k + 1)))) := by
                have e : Lib.byteCells [wbyte x 24, wbyte x 16, wbyte x 8, wbyte x 0] = [.int .u8 (x / 16777216 % 256), .int .u8 (x / 65536 % 256), .int .u8 (x / 256 % 256), .int .u8 (x % 256)] := by
                  simp only [Lib.byteCells, List.map_cons, List.map_nil, HB24.out, HB16.out, HB8.out, HB0.out]
                  simp
                rw [HDf.out, Lib.byteCells_append, e]
                exact hown7
              replace HV := Lib.hid (HV.out.step (by rw [HEq.out]; exact hb7))
              clear hown7 hgrow7 HO HO6 hbE6 hb7
              go_wp2_with fail
              go_roundw
              case rel => exact ⟨k + 1, ao7, cp7, by omega, by go_num, rfl, hown8, HV.out, hsz7⟩
              case measure => simp [intOf]; omega
            · have hd : decide ((k : Int) < 8) = false := by simp; omega
              obtain rfl : k = 8 := by omega
              have hfull : (dig32 st).take (4 * 8) = dig32 st := List.take_of_length_le (by rw [dig32_length]; omega)
              rw [hfull] at HO HL
              obtain ⟨Ob, cpO, hvv, hoO, _⟩ := HO.out.some (by rw [HL.out]; omega)
              rw [HL.out] at hvv
              cases hvv
              have hcv := run_string_row wr Ob cp (dig32 st) (fun j x hx => hoO.cells j _ (by simp [Lib.byteCells, hx]))
              rw [dig32_length] at hcv
              have hBel : Below B w wr := hB3.trans ((HV.out.but.below (Nat.le_of_lt HV.out.lB) (by have := HV.out.lB; have := HV.out.lH; omega)))
              clear hoO HO HL hfull
              go_wp2_with fail
              go_ret
              exact ⟨by rw [HE.out]; rfl, by rw [HBB.out]; exact hBel⟩
end
end Go.Proofs.YtjjgakkijhjaiaaDoor
