/- The reference's rolled and quarter: a quarter round on numbers in memory; The reference's numbers: bytes as numbers, the least first; The reference's Block: a block of a key's stream; The reference's Xor: data with a key's stream; what Block and Xor refuse. -/
import Derived.Test.YtffnafikegakcaaGreatDoorChaA
import Derived.Test.YtffnafikegakcaaGreatDoorBase
namespace Go.Proofs.YtffnafikegakcaaGreatDoor
section
open Go.RowKit Go.Sort
set_option maxRecDepth 100000
set_option linter.unusedSimpArgs false
set_option linter.unusedVariables false

theorem rolled_any (v n : Int) (w : World) (h0 : 0 ≤ n) (h1 : n ≤ 32) :
    Calls Tryz.prog 105 #[.int .u32 v, .int .i64 n] w fun e w' => e = .returned (.int .u32 (rotl32 v n)) ∧ Below w.heap.size w w' := by
  go_enter Tryz.func105, Tryz.ntmps105
  go_wp2_with fail
  have e1 : IntKind.i64.wrap (32 - n) = 32 - n := IntWalk.i64_in _ (by omega)
  have e2 : (0 : Int) ≤ 32 - n := by omega
  go_quiet (fail)
  go_wp2
  go_ret
  refine ⟨?_, below_drewN (Below.refl _ _) _⟩
  simp [rotl32]

/-- Sixteen numbers lie in block b. -/
structure QInv (W : World) (b : Nat) (v : List Int) : Prop where
  len : v.length = 16
  v : ∀ j, j < 16 → W.cell? ⟨b, j, none⟩ = some (.int .u32 (v.getD j 0))
  f : ∀ j, j < 16 → W.frozen? ⟨b, j, none⟩ = false
theorem QInv.lt {W : World} {b : Nat} {v : List Int} (i : QInv W b v) : b < W.heap.size := block_lt_of_cell (i.v 0 (by omega))
theorem QInv.step {W W' : World} {b : Nat} {v : List Int} (i : QInv W b v) (hb : Below W.heap.size W W') : QInv W' b v :=
  ⟨i.len, fun j hj => (hb.cell i.lt).trans (i.v j hj), fun j hj => (hb.frozen i.lt).trans (i.f j hj)⟩
theorem QInv.set {W : World} {b : Nat} {v : List Int} (i : QInv W b v) (k : Nat) (hk : k < 16) (x : Int) : QInv (W.setCell ⟨b, k, none⟩ (.int .u32 x)) b (v.set k x) := by
  have hl := i.len
  refine ⟨by simpa using hl, fun j hj => ?_, fun j hj => by rw [World.frozen?_setCell]; exact i.f j hj⟩
  by_cases hjk : j = k
  · subst hjk
    have e : (v.set j x).getD j 0 = x := by simp [List.getD_eq_getElem?_getD, hl, hj]
    rw [e]
    exact World.cell?_setCell_same _ _ _ (i.v j hj)
  · have e : (v.set k x).getD j 0 = v.getD j 0 := by simp [List.getD_eq_getElem?_getD, List.getElem?_set, Ne.symm hjk]
    rw [e, ← i.v j hj]
    exact World.cell?_setCell_other _ _ _ _ (by first | (simp; done) | (simp; omega) | (intro e; cases e; exact hjk rfl))

set_option maxHeartbeats 4000000 in
theorem quarter_any (V cap a b c d : Nat) (v : List Int) (w : World) (ha : a < 16) (hb : b < 16) (hc : c < 16) (hd : d < 16) (hv : QInv w V v) :
    Calls Tryz.prog 78 #[.slice (some ⟨V, 0, none⟩) 16 cap, .int .i64 (a : Int), .int .i64 (b : Int), .int .i64 (c : Int), .int .i64 (d : Int)] w fun e w' => e = .returned (.tuple #[]) ∧ QInv w' V (qrL v a b c d) ∧ But V w w' := by
  have HD : Hid (qrL v a b c d = rolL (addL (rolL (addL (rolL (addL (rolL (addL v a b) d a 16) c d) b c 12) a b) d a 8) c d) b c 7) := Lib.hid rfl
  have HQ := Lib.hid hv
  have hbut := But.refl V w
  clear hv
  go_enter Tryz.func78, Tryz.ntmps78
  obtain ⟨W0, hW0⟩ : ∃ W0, W0 = w := ⟨_, rfl⟩
  have cx := HQ.out.v a ha; have cy := HQ.out.v b hb
  have HN : Hid (addL v a b = v.set a ((v.getD a 0 + v.getD b 0) % 4294967296)) := Lib.hid rfl
  generalize v.getD a 0 = x at *
  generalize v.getD b 0 = y at *
  go_wp2_with fail
  have q1 := cell_regrown cx; have q2 := cell_regrown cy
  refine wp_region_reads_tail 12 (by kernel_rfl) (by kernel_rfl) ?_
  simp only [List.take_succ_cons, List.take_zero, List.drop_succ_cons, List.drop_zero]
  repeat (first | go_big_quiet_step (fail) | quiet_step (fail))
  refine wpQuiet_nil ?_
  intro Y0 hY
  have hQ := HQ.out.step hY
  replace hbut := hbut.trans (But.of_below hY)
  have cz := hQ.v a ha
  have fz := hQ.f a ha
  have hQ2 := hQ.set a ha ((x + y) % 4294967296)
  rw [← HN.out] at hQ2
  replace HQ := Lib.hid hQ2
  replace hbut := hbut.trans (But.setCell V Y0 ⟨V, a, none⟩ (.int .u32 ((x + y) % 4294967296)) rfl)
  clear q1 q2 cx cy hY hQ hQ2 HN
  go_wp2_with fail
  clear cz fz
  generalize (Y0.setCell _ _) = X1 at *
  generalize hv1 : addL v a b = v1 at *
  clear hv1
  have cx := HQ.out.v d hd; have cy := HQ.out.v a ha
  have HN : Hid (rolL v1 d a 16 = v1.set d (rotl32 (bits .xor .u32 (v1.getD d 0) (v1.getD a 0)) 16)) := Lib.hid rfl
  generalize v1.getD d 0 = x at *
  generalize v1.getD a 0 = y at *
  go_wp2_with fail
  have q1 := cell_regrown cx; have q2 := cell_regrown cy
  refine wp_region_reads_tail 13 (by kernel_rfl) (by kernel_rfl) ?_
  simp only [List.take_succ_cons, List.take_zero, List.drop_succ_cons, List.drop_zero]
  repeat (first | go_big_quiet_step ((go_at_call 105; exact Calls.regrown_of (rolled_any _ _ _ (by omega) (by omega)))) | quiet_step ((go_at_call 105; exact Calls.regrown_of (rolled_any _ _ _ (by omega) (by omega)))))
  refine wpQuiet_nil ?_
  intro Y1 hY
  have hQ := HQ.out.step hY
  replace hbut := hbut.trans (But.of_below hY)
  have cz := hQ.v d hd
  have fz := hQ.f d hd
  have hQ2 := hQ.set d hd (rotl32 (bits .xor .u32 x y) 16)
  rw [← HN.out] at hQ2
  replace HQ := Lib.hid hQ2
  replace hbut := hbut.trans (But.setCell V Y1 ⟨V, d, none⟩ (.int .u32 (rotl32 (bits .xor .u32 x y) 16)) rfl)
  clear q1 q2 cx cy hY hQ hQ2 HN
  go_wp2_with fail
  clear cz fz
  generalize (Y1.setCell _ _) = X2 at *
  generalize hv2 : rolL v1 d a 16 = v2 at *
  clear hv2
  have cx := HQ.out.v c hc; have cy := HQ.out.v d hd
  have HN : Hid (addL v2 c d = v2.set c ((v2.getD c 0 + v2.getD d 0) % 4294967296)) := Lib.hid rfl
  generalize v2.getD c 0 = x at *
  generalize v2.getD d 0 = y at *
  go_wp2_with fail
  have q1 := cell_regrown cx; have q2 := cell_regrown cy
  refine wp_region_reads_tail 12 (by kernel_rfl) (by kernel_rfl) ?_
  simp only [List.take_succ_cons, List.take_zero, List.drop_succ_cons, List.drop_zero]
  repeat (first | go_big_quiet_step (fail) | quiet_step (fail))
  refine wpQuiet_nil ?_
  intro Y2 hY
  have hQ := HQ.out.step hY
  replace hbut := hbut.trans (But.of_below hY)
  have cz := hQ.v c hc
  have fz := hQ.f c hc
  have hQ2 := hQ.set c hc ((x + y) % 4294967296)
  rw [← HN.out] at hQ2
  replace HQ := Lib.hid hQ2
  replace hbut := hbut.trans (But.setCell V Y2 ⟨V, c, none⟩ (.int .u32 ((x + y) % 4294967296)) rfl)
  clear q1 q2 cx cy hY hQ hQ2 HN
  go_wp2_with fail
  clear cz fz
  generalize (Y2.setCell _ _) = X3 at *
  generalize hv3 : addL v2 c d = v3 at *
  clear hv3
  have cx := HQ.out.v b hb; have cy := HQ.out.v c hc
  have HN : Hid (rolL v3 b c 12 = v3.set b (rotl32 (bits .xor .u32 (v3.getD b 0) (v3.getD c 0)) 12)) := Lib.hid rfl
  generalize v3.getD b 0 = x at *
  generalize v3.getD c 0 = y at *
  go_wp2_with fail
  have q1 := cell_regrown cx; have q2 := cell_regrown cy
  refine wp_region_reads_tail 13 (by kernel_rfl) (by kernel_rfl) ?_
  simp only [List.take_succ_cons, List.take_zero, List.drop_succ_cons, List.drop_zero]
  repeat (first | go_big_quiet_step ((go_at_call 105; exact Calls.regrown_of (rolled_any _ _ _ (by omega) (by omega)))) | quiet_step ((go_at_call 105; exact Calls.regrown_of (rolled_any _ _ _ (by omega) (by omega)))))
  refine wpQuiet_nil ?_
  intro Y3 hY
  have hQ := HQ.out.step hY
  replace hbut := hbut.trans (But.of_below hY)
  have cz := hQ.v b hb
  have fz := hQ.f b hb
  have hQ2 := hQ.set b hb (rotl32 (bits .xor .u32 x y) 12)
  rw [← HN.out] at hQ2
  replace HQ := Lib.hid hQ2
  replace hbut := hbut.trans (But.setCell V Y3 ⟨V, b, none⟩ (.int .u32 (rotl32 (bits .xor .u32 x y) 12)) rfl)
  clear q1 q2 cx cy hY hQ hQ2 HN
  go_wp2_with fail
  clear cz fz
  generalize (Y3.setCell _ _) = X4 at *
  generalize hv4 : rolL v3 b c 12 = v4 at *
  clear hv4
  have cx := HQ.out.v a ha; have cy := HQ.out.v b hb
  have HN : Hid (addL v4 a b = v4.set a ((v4.getD a 0 + v4.getD b 0) % 4294967296)) := Lib.hid rfl
  generalize v4.getD a 0 = x at *
  generalize v4.getD b 0 = y at *
  go_wp2_with fail
  have q1 := cell_regrown cx; have q2 := cell_regrown cy
  refine wp_region_reads_tail 12 (by kernel_rfl) (by kernel_rfl) ?_
  simp only [List.take_succ_cons, List.take_zero, List.drop_succ_cons, List.drop_zero]
  repeat (first | go_big_quiet_step (fail) | quiet_step (fail))
  refine wpQuiet_nil ?_
  intro Y4 hY
  have hQ := HQ.out.step hY
  replace hbut := hbut.trans (But.of_below hY)
  have cz := hQ.v a ha
  have fz := hQ.f a ha
  have hQ2 := hQ.set a ha ((x + y) % 4294967296)
  rw [← HN.out] at hQ2
  replace HQ := Lib.hid hQ2
  replace hbut := hbut.trans (But.setCell V Y4 ⟨V, a, none⟩ (.int .u32 ((x + y) % 4294967296)) rfl)
  clear q1 q2 cx cy hY hQ hQ2 HN
  go_wp2_with fail
  clear cz fz
  generalize (Y4.setCell _ _) = X5 at *
  generalize hv5 : addL v4 a b = v5 at *
  clear hv5
  have cx := HQ.out.v d hd; have cy := HQ.out.v a ha
  have HN : Hid (rolL v5 d a 8 = v5.set d (rotl32 (bits .xor .u32 (v5.getD d 0) (v5.getD a 0)) 8)) := Lib.hid rfl
  generalize v5.getD d 0 = x at *
  generalize v5.getD a 0 = y at *
  go_wp2_with fail
  have q1 := cell_regrown cx; have q2 := cell_regrown cy
  refine wp_region_reads_tail 13 (by kernel_rfl) (by kernel_rfl) ?_
  simp only [List.take_succ_cons, List.take_zero, List.drop_succ_cons, List.drop_zero]
  repeat (first | go_big_quiet_step ((go_at_call 105; exact Calls.regrown_of (rolled_any _ _ _ (by omega) (by omega)))) | quiet_step ((go_at_call 105; exact Calls.regrown_of (rolled_any _ _ _ (by omega) (by omega)))))
  refine wpQuiet_nil ?_
  intro Y5 hY
  have hQ := HQ.out.step hY
  replace hbut := hbut.trans (But.of_below hY)
  have cz := hQ.v d hd
  have fz := hQ.f d hd
  have hQ2 := hQ.set d hd (rotl32 (bits .xor .u32 x y) 8)
  rw [← HN.out] at hQ2
  replace HQ := Lib.hid hQ2
  replace hbut := hbut.trans (But.setCell V Y5 ⟨V, d, none⟩ (.int .u32 (rotl32 (bits .xor .u32 x y) 8)) rfl)
  clear q1 q2 cx cy hY hQ hQ2 HN
  go_wp2_with fail
  clear cz fz
  generalize (Y5.setCell _ _) = X6 at *
  generalize hv6 : rolL v5 d a 8 = v6 at *
  clear hv6
  have cx := HQ.out.v c hc; have cy := HQ.out.v d hd
  have HN : Hid (addL v6 c d = v6.set c ((v6.getD c 0 + v6.getD d 0) % 4294967296)) := Lib.hid rfl
  generalize v6.getD c 0 = x at *
  generalize v6.getD d 0 = y at *
  go_wp2_with fail
  have q1 := cell_regrown cx; have q2 := cell_regrown cy
  refine wp_region_reads_tail 12 (by kernel_rfl) (by kernel_rfl) ?_
  simp only [List.take_succ_cons, List.take_zero, List.drop_succ_cons, List.drop_zero]
  repeat (first | go_big_quiet_step (fail) | quiet_step (fail))
  refine wpQuiet_nil ?_
  intro Y6 hY
  have hQ := HQ.out.step hY
  replace hbut := hbut.trans (But.of_below hY)
  have cz := hQ.v c hc
  have fz := hQ.f c hc
  have hQ2 := hQ.set c hc ((x + y) % 4294967296)
  rw [← HN.out] at hQ2
  replace HQ := Lib.hid hQ2
  replace hbut := hbut.trans (But.setCell V Y6 ⟨V, c, none⟩ (.int .u32 ((x + y) % 4294967296)) rfl)
  clear q1 q2 cx cy hY hQ hQ2 HN
  go_wp2_with fail
  clear cz fz
  generalize (Y6.setCell _ _) = X7 at *
  generalize hv7 : addL v6 c d = v7 at *
  clear hv7
  have cx := HQ.out.v b hb; have cy := HQ.out.v c hc
  have HN : Hid (rolL v7 b c 7 = v7.set b (rotl32 (bits .xor .u32 (v7.getD b 0) (v7.getD c 0)) 7)) := Lib.hid rfl
  generalize v7.getD b 0 = x at *
  generalize v7.getD c 0 = y at *
  go_wp2_with fail
  have q1 := cell_regrown cx; have q2 := cell_regrown cy
  refine wp_region_reads_tail 13 (by kernel_rfl) (by kernel_rfl) ?_
  simp only [List.take_succ_cons, List.take_zero, List.drop_succ_cons, List.drop_zero]
  repeat (first | go_big_quiet_step ((go_at_call 105; exact Calls.regrown_of (rolled_any _ _ _ (by omega) (by omega)))) | quiet_step ((go_at_call 105; exact Calls.regrown_of (rolled_any _ _ _ (by omega) (by omega)))))
  refine wpQuiet_nil ?_
  intro Y7 hY
  have hQ := HQ.out.step hY
  replace hbut := hbut.trans (But.of_below hY)
  have cz := hQ.v b hb
  have fz := hQ.f b hb
  have hQ2 := hQ.set b hb (rotl32 (bits .xor .u32 x y) 7)
  rw [← HN.out] at hQ2
  replace HQ := Lib.hid hQ2
  replace hbut := hbut.trans (But.setCell V Y7 ⟨V, b, none⟩ (.int .u32 (rotl32 (bits .xor .u32 x y) 7)) rfl)
  clear q1 q2 cx cy hY hQ hQ2 HN
  go_wp2_with fail
  clear cz fz
  generalize (Y7.setCell _ _) = X8 at *
  generalize hv8 : rolL v7 b c 7 = v8 at *
  clear hv8
  go_end0
  exact ⟨rfl, by rw [HD.out]; exact HQ.out, hbut⟩
end

section
open Go.RowKit Go.Sort
set_option maxRecDepth 100000
set_option linter.unusedSimpArgs false
set_option linter.unusedVariables false

theorem info_u32 : (Tryz.prog.info? 105).map (fun i => (i.zero, i.size, i.bytes)) = some (some (.int .u32 0), 1, 4) := by kernel_rfl
theorem or_le32 (a b c d : UInt8) : bits .or .u32 (bits .or .u32 (bits .or .u32 ((a.toNat : Int) % 4294967296) ((b.toNat : Int) % 4294967296 * 256 % 4294967296)) ((c.toNat : Int) % 4294967296 * 65536 % 4294967296)) ((d.toNat : Int) % 4294967296 * 16777216 % 4294967296) = lw a b c d := by
  have ha := UInt8.toNat_lt a; have hb := UInt8.toNat_lt b; have hc := UInt8.toNat_lt c; have hd := UInt8.toNat_lt d
  unfold lw
  generalize a.toNat = a at *; generalize b.toNat = b at *; generalize c.toNat = c at *; generalize d.toNat = d at *
  rw [show (a : Int) % 4294967296 = a by omega, show (b : Int) % 4294967296 = b by omega, show (c : Int) % 4294967296 = c by omega, show (d : Int) % 4294967296 = d by omega]
  go_bits2
theorem getD_byte (s : ByteArray) (j : Nat) (h : j < s.size) : s.data.toList.getD j 0 = s[j] := by
  have h' : j < s.data.toList.length := by rw [← Lib.size_eq]; exact h
  rw [List.getD_eq_getElem?_getD, List.getElem?_eq_getElem h']
  rfl

theorem index_byte (s : ByteArray) (i : Int) (j : Nat) (hi : i = (j : Int)) (h : j < s.size) (w : World) : (Instr.index 9 (.string s) (.int .i64 i)).run Tryz.prog w = .ok (.int .u8 (s[j].toNat : Int)) w := by
  subst hi
  rw [run_index_string (P := Tryz.prog) w 9 s .i64 (j : Int) Tryz.underlying9]
  simp [h]
set_option maxHeartbeats 2000000 in
theorem numbers_any (s : ByteArray) (m : Nat) (w : World) (hs : s.size = 4 * m) (hm : m ≤ 1000) :
    Calls Tryz.prog 77 #[.string s] w fun e w' => ∃ ao cap, e = .returned (.slice ao m cap) ∧ Own w' w.heap.size (.slice ao m cap) (u32s (lws s.data.toList m)) ∧ Below w.heap.size w w' := by
  obtain ⟨i0, hi, hz0, hz1, hz2⟩ := info_parts info_u32
  have HS := Lib.hid hs
  have hsl : s.size ≤ 4000 := by omega
  clear hs
  go_enter Tryz.func77, Tryz.ntmps77
  go_wp2_with fail
  generalize hBB : w.heap.size = B at *
  have HBB := Lib.hid hBB
  have hszB : B ≤ w.heap.size := by omega
  clear hBB
  go_loopw [3, 4] (fun v i wr => ∃ (j a : Nat) (ao : Option Addr) (cap : Nat), j ≤ m ∧ Hid (a = 4 * j) ∧ i = .int .i64 (a : Int) ∧ v = .slice ao j cap ∧ Own wr B (.slice ao j cap) (u32s (lws s.data.toList j)) ∧ Below B w wr ∧ B ≤ wr.heap.size) (fun _ i _ => s.size - (intOf i).toNat)
  case atStart => exact ⟨0, 0, none, 0, by omega, Lib.hid rfl, rfl, rfl, Own.nil _ _, Below.refl _ _, hszB⟩
  case round =>
    obtain ⟨j, a, ao, cap, hj, HA, rfl, rfl, hown, hb, hsz⟩ := hrel
    have HO := Lib.hid hown
    have HL := Lib.hid (show (u32s (lws s.data.toList j)).length = j from by rw [u32s_length, lws_length])
    clear hown
    by_cases hlt : j < m
    · have ha3 : a + 3 < s.size := by have := HA.out; have := HS.out; omega
      have hd : (a : Int) < (s.size : Int) := by omega
      have p1 : (a : Int) + 1 < (s.size : Int) := by omega
      have p2 : (a : Int) + 2 < (s.size : Int) := by omega
      have p3 : (a : Int) + 3 < (s.size : Int) := by omega
      have HN := Lib.hid (show lws s.data.toList (j + 1) = lws s.data.toList j ++ [lw s[a] s[a + 1] s[a + 2] s[a + 3]] from by
        rw [lws_succ, ← HA.out, getD_byte s a (by omega), getD_byte s (a + 1) (by omega), getD_byte s (a + 2) (by omega), getD_byte s (a + 3) (by omega)])
      have i1 := index_byte s ((a : Int) + 1) (a + 1) (by omega) (by omega)
      have i2 := index_byte s ((a : Int) + 2) (a + 2) (by omega) (by omega)
      have i3 := index_byte s ((a : Int) + 3) (a + 3) (by omega) (by omega)
      go_wp2_with fail
      refine wp_region_moves_tail 26 _ rfl rfl rfl (by kernel_rfl) (by kernel_rfl) (fun _ _ _ _ h => h) ?_
      simp only [Nat.reduceSub, List.take_succ_cons, List.take_zero, List.drop_succ_cons, List.drop_zero]
      dsimp only [Act.put, Act.eval]
      repeat (first | go_big_quiet_step (fail) | quiet_step (fail))
      refine wpQuiet_nil ?_
      intro W4 hb4
      have HO4 := Lib.hid (HO.out.below hb4)
      have hbB : Below B w W4 := hb.trans (hb4.mono hsz)
      have hsz4 := Nat.le_trans hsz hb4.size
      go_wp2_with (at_builtin; refine wpList_append_sl rfl (.tmp 11) (.tmp 37) 106 rfl B 105 i0 (.int .u32 0) 4 Tryz.underlying106 hi hz0 hz1 hz2 rfl ao j cap _ rfl (HO4.out.alloc _) HL.out ⟨W4.heap.size, 0, none⟩ 1 1 [.int .u32 _] rfl rfl (cell_one_new _ _ _) ?b2 ?b3 ?b4 ?b5 ?_)
      case b2 => intro u hu; simp at hu; subst hu; rfl
      case b3 => omega
      case b4 => omega
      case b5 => simp; omega
      intro ao5 cp5 W5 hown5 hgrow5
      have hb5 : Below B w W5 := below_append (hbB.alloc hsz4 _) (by simp; omega) (HO4.out.alloc _) hgrow5
      have hsz5 : B ≤ W5.heap.size := by have := hgrow5.size; simp at this; omega
      rw [or_le32, u32s_snoc, ← HN.out] at hown5
      clear hgrow5 HO HO4 hb4 hbB hb hsz hsz4
      go_wp2_with fail
      go_roundw
      case rel => exact ⟨j + 1, a + 4, ao5, cp5, by omega, Lib.hid (by have := HA.out; omega), by go_num, rfl, hown5, hb5, hsz5⟩
      case measure => simp [intOf]; omega
    · obtain rfl : j = m := by omega
      have hd : ¬ (a : Int) < (s.size : Int) := by have := HA.out; have := HS.out; omega
      go_wp2_with fail
      go_ret
      exact ⟨ao, cap, rfl, by rw [HBB.out]; exact HO.out, by rw [HBB.out]; exact hb⟩
end

section
open Go.RowKit Go.Sort
set_option maxRecDepth 100000
set_option linter.unusedSimpArgs false
set_option linter.unusedVariables false

theorem own_new (w : World) (xs : List Value) (t : TypeId) : Own (w.alloc (.cells xs.toArray t)) w.heap.size (.slice (some ⟨w.heap.size, 0, none⟩) xs.length xs.length) xs := by
  refine .inr ⟨w.heap.size, xs.length, rfl, Nat.le_refl _, Nat.le_refl _, fun j u hj => ?_, fun j hj => ?_⟩
  · rw [cell_of_row _ _ _ _ _ _ (blk_new w _)]; simpa using hj
  · rw [cell_of_row _ _ _ _ _ _ (blk_new w _)]
    exact ⟨by simp [hj], frozen_of_row _ _ _ _ _ (blk_new w _)⟩
theorem OwnS.news {W : World} {base g cap : Nat} {xs : List Value} (h : OwnS W base g cap xs) : ∀ j u, xs[j]? = some u → W.cell? ((⟨g, 0, none⟩ : Addr).add j) = some u := fun j u hj => by
  rw [Addr.add_lit, Nat.zero_add]; exact h.cells j u hj
theorem u32s_one (l : List Int) : ∀ u ∈ u32s l, u.oneCell' = true := by
  intro u hu
  simp only [u32s, List.mem_map] at hu
  obtain ⟨_, _, rfl⟩ := hu; rfl
theorem four_new (w : World) (a b c d : Value) (t : TypeId) : ∀ j u, [a, b, c, d][j]? = some u → (w.alloc (.cells #[a, b, c, d] t)).cell? ((⟨w.heap.size, 0, none⟩ : Addr).add j) = some u := fun j u hj => by
  rw [Addr.add_lit, Nat.zero_add, cell_of_row _ _ _ _ _ _ (blk_new w _)]
  simpa using hj
theorem outB_take (v f : List Int) (n d : Nat) : outB v f (n + d) = outB v f n ++ (outB v f (n + d)).drop (4 * n) := by
  have h : (outB v f (n + d)).take (4 * n) = outB v f n := by
    induction d with
    | zero => rw [Nat.add_zero, List.take_of_length_le (by rw [outB_length]; omega)]
    | succ d ih => rw [← Nat.add_assoc, outB, List.take_append, ih, outB_length, show 4 * n - 4 * (n + d) = 0 by omega]; simp
  conv => lhs; rw [← List.take_append_drop (4 * n) (outB v f (n + d)), h]

set_option maxHeartbeats 4000000 in
theorem refBlock_any (key nonce : ByteArray) (n : Nat) (w : World) (hk : key.size = 32) (hn : nonce.size = 12) (hnn : n ≤ 4294967295) :
    Calls Tryz.prog 51 #[.string key, .string nonce, .int .i64 (n : Int)] w fun e w' => e = .returned (.tuple #[.string ⟨(chaB key.data.toList nonce.data.toList n).toArray⟩, .int .i64 0]) ∧ Below w.heap.size w w' := by
  obtain ⟨i0, hi, hz0, hz1, hz2⟩ := info_parts info_u32
  obtain ⟨i8, hi8, hy0, hy1, hy2⟩ := info_parts info_u8
  have hd1 : ((key.size : Int) != 32) = false := by simp [hk]
  have hd2 : ((nonce.size : Int) != 12) = false := by simp [hn]
  have hd3 : decide ((n : Int) < 0) = false := by simp
  have hd4 : decide ((4294967295 : Int) < (n : Int)) = false := by simp; omega
  have HK := Lib.hid hk; have HNn := Lib.hid hn
  clear hk hn
  have HO0 := Lib.hid (own_new w (u32s [1634760805, 857760878, 2036477234, 1797285236]) 105)
  have hB0 := below_new w (.cells (u32s [1634760805, 857760878, 2036477234, 1797285236]).toArray 105)
  have hs0 : w.heap.size ≤ (w.alloc (.cells (u32s [1634760805, 857760878, 2036477234, 1797285236]).toArray 105)).heap.size := by simp
  have eW : (w.alloc (.cells (u32s [1634760805, 857760878, 2036477234, 1797285236]).toArray 105)) = (w.alloc (.cells #[.int .u32 1634760805, .int .u32 857760878, .int .u32 2036477234, .int .u32 1797285236] 105)) := rfl
  rw [eW] at HO0 hB0 hs0
  clear eW
  go_enter Tryz.func51, Tryz.ntmps51
  go_wp2_with fail
  generalize (w.alloc _) = W0 at *
  generalize hBB : w.heap.size = B at *
  have HBB := Lib.hid hBB
  clear hBB
  refine (numbers_any key 8 W0 HK.out (by omega)).mono ?_
  rintro e W1 ⟨ao1, cp1, rfl, hon1, hb1⟩
  obtain ⟨g1, cq1, hv1, hos1, _⟩ := hon1.some (by rw [u32s_length, lws_length]; omega)
  rw [u32s_length, lws_length] at hv1
  cases hv1
  have HN1 := Lib.hid hos1.news
  have hB1 : Below B w W1 := hB0.trans (hb1.mono hs0)
  have hs1 := Nat.le_trans hs0 hb1.size
  have HO1 := Lib.hid (HO0.out.below hb1)
  clear HO0 hB0 hos1 hon1 hb1 hs0
  go_wp2_with (at_builtin; refine wpList_append_sl rfl (.tmp 29) (.tmp 31) 106 rfl B 105 i0 (.int .u32 0) 4 Tryz.underlying106 hi hz0 hz1 hz2 rfl (some ⟨B, 0, none⟩) 4 4 _ rfl HO1.out rfl ⟨g1, 0, none⟩ 8 cp1 (u32s (lws key.data.toList 8)) rfl (by rw [u32s_length, lws_length]) HN1.out (u32s_one _) ?a3 ?a4 ?a5 ?_)
  case a3 => omega
  case a4 => omega
  case a5 => exact hs1
  intro ao2 cp2 W2 hown2 hgrow2
  rw [u32s_append] at hown2
  have hB2 : Below B w W2 := below_append hB1 hs1 HO1.out hgrow2
  have hs2 : B ≤ W2.heap.size := Nat.le_trans hs1 hgrow2.size
  have HO2 := Lib.hid hown2
  have HL2 := Lib.hid (show (u32s ([1634760805, 857760878, 2036477234, 1797285236] ++ lws key.data.toList 8)).length = 12 from by simp [u32s_length, lws_length])
  clear hown2 hgrow2 HO1 HN1 hB1 hs1
  have hnm : (n : Int) % 4294967296 = (n : Int) := by omega
  go_wp2_with (at_builtin; refine wpList_append_sl rfl (.tmp 33) (.tmp 36) 106 rfl B 105 i0 (.int .u32 0) 4 Tryz.underlying106 hi hz0 hz1 hz2 rfl ao2 12 cp2 _ rfl (HO2.out.alloc _) HL2.out ⟨W2.heap.size, 0, none⟩ 1 1 [.int .u32 (n : Int)] rfl rfl (cell_one_new _ _ _) ?b2 ?b3 ?b4 ?b5 ?_)
  case b2 => intro u hu; simp at hu; subst hu; rfl
  case b3 => omega
  case b4 => omega
  case b5 => simp; omega
  intro ao3 cp3 W3 hown3 hgrow3
  rw [u32s_snoc] at hown3
  have hB3 : Below B w W3 := below_append (hB2.alloc hs2 _) (by simp; omega) (HO2.out.alloc _) hgrow3
  have hs3 : B ≤ W3.heap.size := by have := hgrow3.size; simp at this; omega
  have HO3 := Lib.hid hown3
  clear hown3 hgrow3 HO2 HL2 hB2 hs2
  go_wp2_with fail
  refine (numbers_any nonce 3 W3 HNn.out (by omega)).mono ?_
  rintro e W4 ⟨ao4, cp4, rfl, hon4, hb4⟩
  obtain ⟨g4, cq4, hv4, hos4, _⟩ := hon4.some (by rw [u32s_length, lws_length]; omega)
  rw [u32s_length, lws_length] at hv4
  cases hv4
  have HN4 := Lib.hid hos4.news
  have hB4 : Below B w W4 := hB3.trans (hb4.mono hs3)
  have hs4 := Nat.le_trans hs3 hb4.size
  have HO4 := Lib.hid (HO3.out.below hb4)
  have HL4 := Lib.hid (show (u32s (([1634760805, 857760878, 2036477234, 1797285236] ++ lws key.data.toList 8) ++ [(n : Int)])).length = 13 from by simp [u32s_length, lws_length])
  clear HO3 hB3 hos4 hon4 hb4 hs3
  go_wp2_with (at_builtin; refine wpList_append_sl rfl (.tmp 38) (.tmp 40) 106 rfl B 105 i0 (.int .u32 0) 4 Tryz.underlying106 hi hz0 hz1 hz2 rfl ao3 13 cp3 _ rfl HO4.out HL4.out ⟨g4, 0, none⟩ 3 cp4 (u32s (lws nonce.data.toList 3)) rfl (by rw [u32s_length, lws_length]) HN4.out (u32s_one _) ?c3 ?c4 ?c5 ?_)
  case c3 => omega
  case c4 => omega
  case c5 => exact hs4
  intro ao5 cp5 W5 hown5 hgrow5
  rw [u32s_append] at hown5
  have hB5 : Below B w W5 := below_append hB4 hs4 HO4.out hgrow5
  have hs5 : B ≤ W5.heap.size := Nat.le_trans hs4 hgrow5.size
  have HF : Hid (firstL key.data.toList nonce.data.toList n = ([1634760805, 857760878, 2036477234, 1797285236] ++ lws key.data.toList 8) ++ [(n : Int)] ++ lws nonce.data.toList 3) := Lib.hid rfl
  have hown5f : Own W5 B (.slice ao5 16 cp5) (u32s (firstL key.data.toList nonce.data.toList n)) := by rw [HF.out]; simpa using hown5
  clear hown5
  have HFL := Lib.hid (firstL_length key.data.toList nonce.data.toList n)
  have HCB : Hid (chaB key.data.toList nonce.data.toList n = outB (roundsL (firstL key.data.toList nonce.data.toList n) 10) (firstL key.data.toList nonce.data.toList n) 16) := Lib.hid rfl
  generalize firstL key.data.toList nonce.data.toList n = fl at *
  obtain ⟨F, cF, hvF, hosF, _⟩ := hown5f.some (by rw [u32s_length, HFL.out]; omega)
  rw [u32s_length, HFL.out] at hvF
  cases hvF
  have HNF := Lib.hid hosF.news
  have HcF := Lib.hid (show ∀ j, j < 16 → W5.cell? ⟨F, j, none⟩ = some (.int .u32 (fl.getD j 0)) from fun j hj => hosF.cells j _ (u32s_get fl j (by rw [HFL.out]; exact hj)))
  have hFB := hosF.base
  clear HF HO4 HL4 HN4 hown5f hgrow5 hosF hB4 hs4 hnm
  go_wp2_with (at_builtin; refine wpList_append_sl rfl (.tmp 42) (.tmp 43) 106 rfl W5.heap.size 105 i0 (.int .u32 0) 4 Tryz.underlying106 hi hz0 hz1 hz2 rfl none 0 0 [] rfl (Own.nil _ _) rfl ⟨F, 0, none⟩ 16 cp5 (u32s fl) rfl (by rw [u32s_length, HFL.out]) HNF.out (u32s_one _) ?e3 ?e4 ?e5 ?_)
  case e3 => omega
  case e4 => omega
  case e5 => exact Nat.le_refl _
  intro ao6 cp6 W6 hown6 hgrow6
  try simp only [Nat.zero_add, List.nil_append] at hown6
  try simp only [Nat.zero_add]
  have hb6 : Below W5.heap.size W5 W6 := (Below.refl _ W5).grown hgrow6 (Nat.le_refl _) (by intro k hk; simp [Value.ownBlock] at hk)
  obtain ⟨V, cV, hvV, hosV, hVlt⟩ := hown6.some (by rw [u32s_length, HFL.out]; omega)
  rw [u32s_length, HFL.out] at hvV
  cases hvV
  have hcF6 : ∀ j, j < 16 → W6.cell? ⟨F, j, none⟩ = some (.int .u32 (fl.getD j 0)) := fun j hj => (hb6.cell (block_lt_of_cell (HcF.out j hj))).trans (HcF.out j hj)
  have hFlt := block_lt_of_cell (HcF.out 0 (by omega))
  have hVF : F < V := Nat.lt_of_lt_of_le hFlt hosV.base
  have hQ6 : QInv W6 V (roundsL fl 0) := ⟨HFL.out, fun j hj => hosV.cells j _ (u32s_get fl j (by rw [HFL.out]; exact hj)), fun j hj => (hosV.room j (by have := hosV.le; rw [u32s_length, HFL.out] at this; omega)).2⟩
  have hB6 : Below B w W6 := hB5.trans (hb6.mono hs5)
  have hs6 := Nat.le_trans hs5 hb6.size
  have hBV : B ≤ V := Nat.le_of_lt (Nat.lt_of_le_of_lt hFB hVF)
  have HcF6 := Lib.hid hcF6; have HQ6 := Lib.hid hQ6
  clear HcF hcF6 hQ6 hosV hown6 hgrow6 hb6 hVlt HNF hB5 hs5 hFlt
  go_wp2_with fail
  go_loopw [10] (fun iv wr => ∃ k : Nat, k ≤ 10 ∧ iv = .int .i64 k ∧ QInv wr V (roundsL fl k) ∧ (∀ j, j < 16 → wr.cell? ⟨F, j, none⟩ = some (.int .u32 (fl.getD j 0))) ∧ Below B w wr ∧ B ≤ wr.heap.size) (fun iv _ => 10 - (intOf iv).toNat)
  case atStart => exact ⟨0, by omega, rfl, HQ6.out, HcF6.out, hB6, hs6⟩
  case round =>
    clear HQ6 HcF6 hB6 hs6
    obtain ⟨k, hk, rfl, hq, hcf, hb, hsz⟩ := hrel
    have HQ0 := Lib.hid hq; have HC0 := Lib.hid hcf
    clear hq hcf
    by_cases hk10 : k < 10
    · have hdk : decide ((k : Int) < 10) = true := by simp; omega
      have HR : Hid (roundsL fl (k + 1) = qrL (qrL (qrL (qrL (qrL (qrL (qrL (qrL (roundsL fl k) 0 4 8 12) 1 5 9 13) 2 6 10 14) 3 7 11 15) 0 5 10 15) 1 6 11 12) 2 7 8 13) 3 4 9 14) := Lib.hid rfl
      generalize roundsL fl k = v0 at *
      go_wp2_with fail
      refine (quarter_any V cp6 0 4 8 12 v0 wr (by omega) (by omega) (by omega) (by omega) HQ0.out).mono ?_
      rintro e Z1 ⟨rfl, hq, hbut⟩
      have HC1 := Lib.hid (show ∀ j, j < 16 → Z1.cell? ⟨F, j, none⟩ = some (.int .u32 (fl.getD j 0)) from fun j hj => (World.cell?_of_block (a := ⟨F, j, none⟩) (hbut.block F (block_lt_of_cell (HC0.out j hj)) (by omega))).trans (HC0.out j hj))
      have hB1 : Below B w Z1 := hb.trans (hbut.below hBV hsz)
      have hS1 := Nat.le_trans hsz hbut.size
      generalize hv1 : qrL v0 0 4 8 12 = v1 at *
      have HQ1 := Lib.hid hq
      clear hq hbut hv1 HQ0 HC0 hb hsz
      go_wp2_with fail
      refine (quarter_any V cp6 1 5 9 13 v1 Z1 (by omega) (by omega) (by omega) (by omega) HQ1.out).mono ?_
      rintro e Z2 ⟨rfl, hq, hbut⟩
      have HC2 := Lib.hid (show ∀ j, j < 16 → Z2.cell? ⟨F, j, none⟩ = some (.int .u32 (fl.getD j 0)) from fun j hj => (World.cell?_of_block (a := ⟨F, j, none⟩) (hbut.block F (block_lt_of_cell (HC1.out j hj)) (by omega))).trans (HC1.out j hj))
      have hB2 : Below B w Z2 := hB1.trans (hbut.below hBV hS1)
      have hS2 := Nat.le_trans hS1 hbut.size
      generalize hv2 : qrL v1 1 5 9 13 = v2 at *
      have HQ2 := Lib.hid hq
      clear hq hbut hv2 HQ1 HC1 hB1 hS1
      go_wp2_with fail
      refine (quarter_any V cp6 2 6 10 14 v2 Z2 (by omega) (by omega) (by omega) (by omega) HQ2.out).mono ?_
      rintro e Z3 ⟨rfl, hq, hbut⟩
      have HC3 := Lib.hid (show ∀ j, j < 16 → Z3.cell? ⟨F, j, none⟩ = some (.int .u32 (fl.getD j 0)) from fun j hj => (World.cell?_of_block (a := ⟨F, j, none⟩) (hbut.block F (block_lt_of_cell (HC2.out j hj)) (by omega))).trans (HC2.out j hj))
      have hB3 : Below B w Z3 := hB2.trans (hbut.below hBV hS2)
      have hS3 := Nat.le_trans hS2 hbut.size
      generalize hv3 : qrL v2 2 6 10 14 = v3 at *
      have HQ3 := Lib.hid hq
      clear hq hbut hv3 HQ2 HC2 hB2 hS2
      go_wp2_with fail
      refine (quarter_any V cp6 3 7 11 15 v3 Z3 (by omega) (by omega) (by omega) (by omega) HQ3.out).mono ?_
      rintro e Z4 ⟨rfl, hq, hbut⟩
      have HC4 := Lib.hid (show ∀ j, j < 16 → Z4.cell? ⟨F, j, none⟩ = some (.int .u32 (fl.getD j 0)) from fun j hj => (World.cell?_of_block (a := ⟨F, j, none⟩) (hbut.block F (block_lt_of_cell (HC3.out j hj)) (by omega))).trans (HC3.out j hj))
      have hB4 : Below B w Z4 := hB3.trans (hbut.below hBV hS3)
      have hS4 := Nat.le_trans hS3 hbut.size
      generalize hv4 : qrL v3 3 7 11 15 = v4 at *
      have HQ4 := Lib.hid hq
      clear hq hbut hv4 HQ3 HC3 hB3 hS3
      go_wp2_with fail
      refine (quarter_any V cp6 0 5 10 15 v4 Z4 (by omega) (by omega) (by omega) (by omega) HQ4.out).mono ?_
      rintro e Z5 ⟨rfl, hq, hbut⟩
      have HC5 := Lib.hid (show ∀ j, j < 16 → Z5.cell? ⟨F, j, none⟩ = some (.int .u32 (fl.getD j 0)) from fun j hj => (World.cell?_of_block (a := ⟨F, j, none⟩) (hbut.block F (block_lt_of_cell (HC4.out j hj)) (by omega))).trans (HC4.out j hj))
      have hB5 : Below B w Z5 := hB4.trans (hbut.below hBV hS4)
      have hS5 := Nat.le_trans hS4 hbut.size
      generalize hv5 : qrL v4 0 5 10 15 = v5 at *
      have HQ5 := Lib.hid hq
      clear hq hbut hv5 HQ4 HC4 hB4 hS4
      go_wp2_with fail
      refine (quarter_any V cp6 1 6 11 12 v5 Z5 (by omega) (by omega) (by omega) (by omega) HQ5.out).mono ?_
      rintro e Z6 ⟨rfl, hq, hbut⟩
      have HC6 := Lib.hid (show ∀ j, j < 16 → Z6.cell? ⟨F, j, none⟩ = some (.int .u32 (fl.getD j 0)) from fun j hj => (World.cell?_of_block (a := ⟨F, j, none⟩) (hbut.block F (block_lt_of_cell (HC5.out j hj)) (by omega))).trans (HC5.out j hj))
      have hB6 : Below B w Z6 := hB5.trans (hbut.below hBV hS5)
      have hS6 := Nat.le_trans hS5 hbut.size
      generalize hv6 : qrL v5 1 6 11 12 = v6 at *
      have HQ6 := Lib.hid hq
      clear hq hbut hv6 HQ5 HC5 hB5 hS5
      go_wp2_with fail
      refine (quarter_any V cp6 2 7 8 13 v6 Z6 (by omega) (by omega) (by omega) (by omega) HQ6.out).mono ?_
      rintro e Z7 ⟨rfl, hq, hbut⟩
      have HC7 := Lib.hid (show ∀ j, j < 16 → Z7.cell? ⟨F, j, none⟩ = some (.int .u32 (fl.getD j 0)) from fun j hj => (World.cell?_of_block (a := ⟨F, j, none⟩) (hbut.block F (block_lt_of_cell (HC6.out j hj)) (by omega))).trans (HC6.out j hj))
      have hB7 : Below B w Z7 := hB6.trans (hbut.below hBV hS6)
      have hS7 := Nat.le_trans hS6 hbut.size
      generalize hv7 : qrL v6 2 7 8 13 = v7 at *
      have HQ7 := Lib.hid hq
      clear hq hbut hv7 HQ6 HC6 hB6 hS6
      go_wp2_with fail
      refine (quarter_any V cp6 3 4 9 14 v7 Z7 (by omega) (by omega) (by omega) (by omega) HQ7.out).mono ?_
      rintro e Z8 ⟨rfl, hq, hbut⟩
      have HC8 := Lib.hid (show ∀ j, j < 16 → Z8.cell? ⟨F, j, none⟩ = some (.int .u32 (fl.getD j 0)) from fun j hj => (World.cell?_of_block (a := ⟨F, j, none⟩) (hbut.block F (block_lt_of_cell (HC7.out j hj)) (by omega))).trans (HC7.out j hj))
      have hB8 : Below B w Z8 := hB7.trans (hbut.below hBV hS7)
      have hS8 := Nat.le_trans hS7 hbut.size
      generalize hv8 : qrL v7 3 4 9 14 = v8 at *
      have HQ8 := Lib.hid hq
      clear hq hbut hv8 HQ7 HC7 hB7 hS7
      go_wp2_with fail
      go_roundw
      case rel => exact ⟨k + 1, by omega, by go_num, by rw [HR.out]; exact HQ8.out, HC8.out, hB8, hS8⟩
      case measure => simp [intOf]; omega
    · have hdk : decide ((k : Int) < 10) = false := by simp; omega
      obtain rfl : k = 10 := by omega
      generalize roundsL fl 10 = vl at *
      rw [show ((10 : Nat) : Int) = (10 : Int) from rfl]
      obtain ⟨Wx, rfl⟩ : ∃ Wx, Wx = wr := ⟨_, rfl⟩
      generalize hE : Wx.heap.size = E at *
      have HE := Lib.hid hE
      have hVE : V < E := by rw [← hE]; exact HQ0.out.lt
      have hFE : F < E := by omega
      clear hE
      go_wp2_with fail
      go_loopw [11, 12] (fun ov iv wr => ∃ (m : Nat) (ao : Option Addr) (cp : Nat), m ≤ 16 ∧ iv = .int .i64 m ∧ ov = .slice ao (4 * m) cp ∧ Own wr E (.slice ao (4 * m) cp) (Lib.byteCells (outB vl fl m)) ∧ Below E Wx wr ∧ E ≤ wr.heap.size) (fun _ iv _ => 16 - (intOf iv).toNat)
      case atStart => exact ⟨0, none, 0, by omega, rfl, rfl, Own.nil _ _, Below.refl _ _, by rw [HE.out]; omega⟩
      case round =>
        clear hdk
        obtain ⟨m, ao, cp, hm, rfl, rfl, hown, hbE, hszE⟩ := hrel
        have HO := Lib.hid hown
        have HL := Lib.hid (show (Lib.byteCells (outB vl fl m)).length = 4 * m from by rw [Lib.byteCells_length, outB_length])
        clear hown
        by_cases hm16 : m < 16
        · have hdm : decide ((m : Int) < 16) = true := by simp; omega
          have cv := (hbE.cell (p := ⟨V, m, none⟩) hVE).trans (HQ0.out.v m hm16)
          have cf := (hbE.cell (p := ⟨F, m, none⟩) hFE).trans (HC0.out m hm16)
          have HN : Hid (outB vl fl (m + 1) = outB vl fl m ++ leB ((vl.getD m 0 + fl.getD m 0) % 4294967296)) := Lib.hid rfl
          generalize vl.getD m 0 = x at *
          generalize fl.getD m 0 = y at *
          go_wp2_with fail
          go_quiet (fail)
          rename_i nq
          generalize hx : (x + y) % 4294967296 = z at *
          have b0 := wbyte_toNat z 0; have b1 := wbyte_toNat z 8; have b2 := wbyte_toNat z 16; have b3 := wbyte_toNat z 24
          have HBy := Lib.hid (show Lib.byteCells (leB z) = [.int .u8 (z % 256), .int .u8 (z / 256 % 256), .int .u8 (z / 65536 % 256), .int .u8 (z / 16777216 % 256)] from by
            simp only [leB, Lib.byteCells, List.map_cons, List.map_nil, b0, b1, b2, b3]
            simp)
          have hbd : Below E Wx (wr.drewN nq) := below_drewN hbE _
          have hszd : E ≤ (wr.drewN nq).heap.size := hszE
          have HOd := Lib.hid (HO.out.below (below_drewN (Below.refl _ _) nq))
          clear HO hbE hszE cv cf hx b0 b1 b2 b3
          generalize wr.drewN nq = Wd at *
          go_wp2_with (at_builtin; refine wpList_append_sl rfl (.tmp 78) (.tmp 90) 46 rfl E 5 i8 (.int .u8 0) 1 Tryz.underlying46 hi8 hy0 hy1 hy2 rfl ao (4 * m) cp _ rfl (HOd.out.alloc _) HL.out ⟨Wd.heap.size, 0, none⟩ 4 4 [_, _, _, _] rfl rfl (four_new _ _ _ _ _ _) ?p2 ?p3 ?p4 ?p5 ?_)
          case p2 => intro u hu; simp only [List.mem_cons, List.not_mem_nil, or_false] at hu; rcases hu with rfl | rfl | rfl | rfl <;> rfl
          case p3 => omega
          case p4 => omega
          case p5 => simp; omega
          intro ao7 cp7 W7 hown7 hgrow7
          have hb7 : Below E Wx W7 := below_append (hbd.alloc hszd _) (by simp; omega) (HOd.out.alloc _) hgrow7
          have hsz7 : E ≤ W7.heap.size := by have := hgrow7.size; simp at this; omega
          have hown8 : Own W7 E (.slice ao7 (4 * (m + 1)) cp7) (Lib.byteCells (outB vl fl (m + 1))) := by
            rw [HN.out, Lib.byteCells_append, HBy.out]
            exact hown7
          clear hown7 hgrow7 HOd hbd hszd
          go_wp2_with fail
          go_roundw
          case rel => exact ⟨m + 1, ao7, cp7, by omega, by go_num, rfl, hown8, hb7, hsz7⟩
          case measure => simp [intOf]; omega
        · have hdm : decide ((m : Int) < 16) = false := by simp; omega
          obtain rfl : m = 16 := by omega
          obtain ⟨Ob, cpO, hvv, hoO, _⟩ := HO.out.some (by rw [HL.out]; omega)
          rw [HL.out] at hvv
          cases hvv
          have hcv := run_string_row wr Ob cp (outB vl fl 16) (fun j x hx => hoO.cells j _ (by simp [Lib.byteCells, hx]))
          rw [outB_length] at hcv
          have hBw : Below B w wr := hb.trans (hbE.mono hsz)
          clear hoO HO HL
          go_wp2_with fail
          go_ret2
          exact ⟨by rw [HCB.out]; rfl, by rw [HBB.out]; exact hBw⟩
end

section
open Go.RowKit Go.Sort
set_option maxRecDepth 100000
set_option linter.unusedSimpArgs false
set_option linter.unusedVariables false

theorem run_string_nil (w : World) : (convert 46 9 (.slice none 0 0)).run Tryz.prog w = .ok (.string ⟨#[]⟩) w := by
  rw [run_convert_bytes_string w 46 9 5 _ _ _ Tryz.underlying46 Tryz.underlying5 Tryz.underlying9]
  rfl
theorem refBlockKey_any (key nonce : ByteArray) (n : Int) (w : World) (h : key.size ≠ 32 ∨ nonce.size ≠ 12) :
    Calls Tryz.prog 51 #[.string key, .string nonce, .int .i64 n] w fun e w' => e = .returned (.tuple #[.string ⟨#[]⟩, .int .i64 21]) ∧ Below w.heap.size w w' := by
  by_cases hk : key.size = 32
  · have hd1 : ((key.size : Int) != 32) = false := by simp [hk]
    have hd2 : ((nonce.size : Int) != 12) = true := by
      have : nonce.size ≠ 12 := by omega
      simp; omega
    go_enter Tryz.func51, Tryz.ntmps51
    go_wp2_with fail
    go_ret2
    exact ⟨rfl, Below.refl _ _⟩
  · have hd1 : ((key.size : Int) != 32) = true := by simp; omega
    go_enter Tryz.func51, Tryz.ntmps51
    go_wp2_with fail
    go_ret2
    exact ⟨rfl, Below.refl _ _⟩
theorem refBlockArg_any (key nonce : ByteArray) (n : Int) (w : World) (hk : key.size = 32) (hn : nonce.size = 12) (h : n < 0 ∨ 4294967295 < n) :
    Calls Tryz.prog 51 #[.string key, .string nonce, .int .i64 n] w fun e w' => e = .returned (.tuple #[.string ⟨#[]⟩, .int .i64 1]) ∧ Below w.heap.size w w' := by
  have hd1 : ((key.size : Int) != 32) = false := by simp [hk]
  have hd2 : ((nonce.size : Int) != 12) = false := by simp [hn]
  clear hk hn
  by_cases hneg : n < 0
  · have hd3 : decide (n < 0) = true := by simp; omega
    go_enter Tryz.func51, Tryz.ntmps51
    go_wp2_with fail
    go_ret2
    exact ⟨rfl, Below.refl _ _⟩
  · have hd3 : decide (n < 0) = false := by simp; omega
    have hd4 : decide ((4294967295 : Int) < n) = true := by simp; omega
    go_enter Tryz.func51, Tryz.ntmps51
    go_wp2_with fail
    go_ret2
    exact ⟨rfl, Below.refl _ _⟩
theorem refXorErr_any (key nonce : ByteArray) (n q : Int) (data : ByteArray) (w : World) (hq : q ≠ 0) (h : ∀ W, Calls Tryz.prog 51 #[.string key, .string nonce, .int .i64 n] W fun e w' => e = .returned (.tuple #[.string ⟨#[]⟩, .int .i64 q]) ∧ Below W.heap.size W w') :
    Calls Tryz.prog 36 #[.string key, .string nonce, .int .i64 n, .string data] w fun e w' => e = .returned (.tuple #[.string ⟨#[]⟩, .int .i64 q]) ∧ Below w.heap.size w w' := by
  have hd : (q != 0) = true := by simpa using hq
  go_enter Tryz.func36, Tryz.ntmps36
  go_wp2_with fail
  refine (h w).mono ?_
  rintro e W1 ⟨rfl, hb1⟩
  go_wp2_with fail
  go_ret2
  exact ⟨rfl, hb1⟩
theorem refXorBig_any (key nonce : ByteArray) (n : Nat) (data : ByteArray) (w : World) (hk : key.size = 32) (hn : nonce.size = 12) (hnn : n ≤ 4294967295) (hs : data.size ≤ 1073741824) (h : 4294967296 < n + (data.size + 63) / 64) :
    Calls Tryz.prog 36 #[.string key, .string nonce, .int .i64 (n : Int), .string data] w fun e w' => e = .returned (.tuple #[.string ⟨#[]⟩, .int .i64 13]) ∧ Below w.heap.size w w' := by
  have hd : (4294967296 : Int) < (n : Int) + ((data.size : Int) + 63) / 64 := by omega
  have H1 := Lib.hid (refBlock_any key nonce n w hk hn hnn)
  clear hk hn
  go_enter Tryz.func36, Tryz.ntmps36
  go_wp2_with fail
  refine H1.out.mono ?_
  rintro e W1 ⟨rfl, hb1⟩
  go_wp2_with fail
  go_ret2
  exact ⟨rfl, hb1⟩
set_option maxHeartbeats 4000000 in
theorem refXor_any (key nonce : ByteArray) (n : Nat) (data : ByteArray) (w : World) (hk : key.size = 32) (hn : nonce.size = 12) (hnn : n ≤ 4294967295) (hs : data.size ≤ 1073741824) (h : n + (data.size + 63) / 64 ≤ 4294967296) :
    Calls Tryz.prog 36 #[.string key, .string nonce, .int .i64 (n : Int), .string data] w fun e w' => e = .returned (.tuple #[.string ⟨(chaX key.data.toList nonce.data.toList n data.data.toList data.size).toArray⟩, .int .i64 0]) ∧ Below w.heap.size w w' := by
  obtain ⟨i8, hi8, hy0, hy1, hy2⟩ := info_parts info_u8
  have hd : ¬ (4294967296 : Int) < (n : Int) + ((data.size : Int) + 63) / 64 := by omega
  have HB : Hid (∀ (m : Nat) (z : Int), z = (m : Int) → m ≤ 4294967295 → ∀ W, Calls Tryz.prog 51 #[.string key, .string nonce, .int .i64 z] W fun e w' => e = .returned (.tuple #[.string ⟨(chaB key.data.toList nonce.data.toList m).toArray⟩, .int .i64 0]) ∧ Below W.heap.size W w') := Lib.hid (fun m z hz hm W => by subst hz; exact refBlock_any key nonce m W hk hn hm)
  clear hk hn
  go_enter Tryz.func36, Tryz.ntmps36
  go_wp2_with fail
  refine (HB.out n n rfl hnn w).mono ?_
  rintro e W1 ⟨rfl, hb1⟩
  have hs1 := hb1.size
  generalize hBB : w.heap.size = B at *
  have HBB := Lib.hid hBB
  clear hBB
  generalize (⟨(chaB key.data.toList nonce.data.toList n).toArray⟩ : ByteArray) = s0
  go_wp2_with fail
  go_loopw [12, 13, 14] (fun ov sv iv wr => ∃ (i : Nat) (ao : Option Addr) (cp : Nat) (sb : ByteArray), i ≤ data.size ∧ iv = .int .i64 i ∧ ov = .slice ao i cp ∧ sv = .string sb ∧ (i % 64 ≠ 0 → sb.data.toList = chaB key.data.toList nonce.data.toList (n + i / 64)) ∧ Own wr B (.slice ao i cp) (Lib.byteCells (chaX key.data.toList nonce.data.toList n data.data.toList i)) ∧ Below B w wr ∧ B ≤ wr.heap.size) (fun _ _ iv _ => data.size - (intOf iv).toNat)
  case atStart => exact ⟨0, none, 0, ⟨#[]⟩, by omega, rfl, rfl, rfl, by simp, Own.nil _ _, hb1, hs1⟩
  case round =>
    clear hb1 hs1
    obtain ⟨i, ao, cp, sb, hin, rfl, rfl, rfl, hsb, hown, hb, hsz⟩ := hrel
    have HO := Lib.hid hown; have HSB := Lib.hid hsb
    have HL := Lib.hid (show (Lib.byteCells (chaX key.data.toList nonce.data.toList n data.data.toList i)).length = i from by rw [Lib.byteCells_length, chaX_length])
    clear hown hsb
    by_cases hlt : i < data.size
    · have hdi : (i : Int) < (data.size : Int) := by omega
      have HX0 : Hid (chaX key.data.toList nonce.data.toList n data.data.toList (i + 1) = chaX key.data.toList nonce.data.toList n data.data.toList i ++ [xorB ((((chaB key.data.toList nonce.data.toList (n + i / 64)).getD (i % 64) 0).toNat : Nat) : Int) (data.data.toList.getD i 0)]) := Lib.hid rfl
      rw [getD_byte data i hlt] at HX0
      have HCL := Lib.hid (chaB_length key.data.toList nonce.data.toList (n + i / 64))
      by_cases hz : i % 64 = 0
      · have hdz : ((i : Int) % 64 == 0) = true := by simp; omega
        have hm : n + i / 64 ≤ 4294967295 := by omega
        go_wp2_with fail
        refine (HB.out (n + i / 64) _ (by omega) hm wr).mono ?_
        rintro e W2 ⟨rfl, hb2⟩
        have hBw2 : Below B w W2 := hb.trans (hb2.mono hsz)
        have hsz2 := Nat.le_trans hsz hb2.size
        have HO2 := Lib.hid (HO.out.below hb2)
        have hsn : (⟨(chaB key.data.toList nonce.data.toList (n + i / 64)).toArray⟩ : ByteArray).data.toList = chaB key.data.toList nonce.data.toList (n + i / 64) := by simp
        generalize (⟨(chaB key.data.toList nonce.data.toList (n + i / 64)).toArray⟩ : ByteArray) = sn at *
        clear HO hb2 hb hsz
        have hss : sn.size = 64 := by rw [Lib.size_eq, hsn, HCL.out]
        have i1 := index_byte sn ((i : Int) % 64) (i % 64) (by omega) (by omega)
        have HXs := Lib.hid (show chaX key.data.toList nonce.data.toList n data.data.toList (i + 1) = chaX key.data.toList nonce.data.toList n data.data.toList i ++ [xorB ((sn[i % 64]'(by omega)).toNat : Int) data[i]] from by
          rw [HX0.out, ← hsn, getD_byte sn (i % 64) (by omega)])
        have HY := Lib.hid (xorB_toNat ((sn[i % 64]'(by omega)).toNat : Int) data[i])
        have HSN := Lib.hid hsn
        clear HX0 hsn HSB
        generalize ((sn[i % 64]'(by omega)).toNat : Int) = t at *
        have hss2 : sn.size ≤ 64 := by omega
        clear hss
        go_wp2_with fail
        refine wp_region_moves_tail 9 _ rfl rfl rfl (by kernel_rfl) (by kernel_rfl) (fun _ _ _ _ h => h) ?_
        simp only [Nat.reduceSub, List.take_succ_cons, List.take_zero, List.drop_succ_cons, List.drop_zero]
        dsimp only [Act.put, Act.eval]
        repeat (first | go_big_quiet_step (fail) | quiet_step (fail))
        refine wpQuiet_nil ?_
        intro W4 hb4
        have HO4 := Lib.hid (HO2.out.below hb4)
        have hbB : Below B w W4 := hBw2.trans (hb4.mono hsz2)
        have hsz4 := Nat.le_trans hsz2 hb4.size
        go_wp2_with (at_builtin; refine wpList_append_sl rfl (.tmp 51) (.tmp 60) 46 rfl B 5 i8 (.int .u8 0) 1 Tryz.underlying46 hi8 hy0 hy1 hy2 rfl ao i cp _ rfl (HO4.out.alloc _) HL.out ⟨W4.heap.size, 0, none⟩ 1 1 [.int .u8 (bits .xor .u8 (data[i].toNat : Int) t)] rfl rfl (cell_one_new _ _ _) ?ab2 ?ab3 ?ab4 ?ab5 ?_)
        case ab2 => intro u hu; simp at hu; subst hu; rfl
        case ab3 => omega
        case ab4 => omega
        case ab5 => simp; omega
        intro ao5 cp5 W5 hown5 hgrow5
        have hb5 : Below B w W5 := below_append (hbB.alloc hsz4 _) (by simp; omega) (HO4.out.alloc _) hgrow5
        have hsz5 : B ≤ W5.heap.size := by have := hgrow5.size; simp at this; omega
        have hown6 : Own W5 B (.slice ao5 (i + 1) cp5) (Lib.byteCells (chaX key.data.toList nonce.data.toList n data.data.toList (i + 1))) := by
          rw [HXs.out, Lib.byteCells_append]
          have e : Lib.byteCells [xorB t data[i]] = [.int .u8 (bits .xor .u8 (data[i].toNat : Int) t)] := by simp only [Lib.byteCells, List.map_cons, List.map_nil, HY.out]
          rw [e]; exact hown5
        clear hown5 hgrow5 HO4 hbB hb4 i1
        go_wp2_with fail
        go_roundw
        case rel => exact ⟨i + 1, ao5, cp5, sn, by omega, by go_num, rfl, rfl, fun hne => by rw [HSN.out]; congr 1; omega, hown6, hb5, hsz5⟩
        case measure => simp [intOf]; omega
      · have hdz : ((i : Int) % 64 == 0) = false := by simp; omega
        have hsb := HSB.out hz
        have hsn := hsb
        clear hsb
        have hss : sb.size = 64 := by rw [Lib.size_eq, hsn, HCL.out]
        have i1 := index_byte sb ((i : Int) % 64) (i % 64) (by omega) (by omega)
        have HXs := Lib.hid (show chaX key.data.toList nonce.data.toList n data.data.toList (i + 1) = chaX key.data.toList nonce.data.toList n data.data.toList i ++ [xorB ((sb[i % 64]'(by omega)).toNat : Int) data[i]] from by
          rw [HX0.out, ← hsn, getD_byte sb (i % 64) (by omega)])
        have HY := Lib.hid (xorB_toNat ((sb[i % 64]'(by omega)).toNat : Int) data[i])
        have HSN := Lib.hid hsn
        clear HX0 hsn HSB
        generalize ((sb[i % 64]'(by omega)).toNat : Int) = t at *
        have hss2 : sb.size ≤ 64 := by omega
        clear hss
        go_wp2_with fail
        refine wp_region_moves_tail 9 _ rfl rfl rfl (by kernel_rfl) (by kernel_rfl) (fun _ _ _ _ h => h) ?_
        simp only [Nat.reduceSub, List.take_succ_cons, List.take_zero, List.drop_succ_cons, List.drop_zero]
        dsimp only [Act.put, Act.eval]
        repeat (first | go_big_quiet_step (fail) | quiet_step (fail))
        refine wpQuiet_nil ?_
        intro W4 hb4
        have HO4 := Lib.hid (HO.out.below hb4)
        have hbB : Below B w W4 := hb.trans (hb4.mono hsz)
        have hsz4 := Nat.le_trans hsz hb4.size
        go_wp2_with (at_builtin; refine wpList_append_sl rfl (.tmp 51) (.tmp 60) 46 rfl B 5 i8 (.int .u8 0) 1 Tryz.underlying46 hi8 hy0 hy1 hy2 rfl ao i cp _ rfl (HO4.out.alloc _) HL.out ⟨W4.heap.size, 0, none⟩ 1 1 [.int .u8 (bits .xor .u8 (data[i].toNat : Int) t)] rfl rfl (cell_one_new _ _ _) ?cb2 ?cb3 ?cb4 ?cb5 ?_)
        case cb2 => intro u hu; simp at hu; subst hu; rfl
        case cb3 => omega
        case cb4 => omega
        case cb5 => simp; omega
        intro ao5 cp5 W5 hown5 hgrow5
        have hb5 : Below B w W5 := below_append (hbB.alloc hsz4 _) (by simp; omega) (HO4.out.alloc _) hgrow5
        have hsz5 : B ≤ W5.heap.size := by have := hgrow5.size; simp at this; omega
        have hown6 : Own W5 B (.slice ao5 (i + 1) cp5) (Lib.byteCells (chaX key.data.toList nonce.data.toList n data.data.toList (i + 1))) := by
          rw [HXs.out, Lib.byteCells_append]
          have e : Lib.byteCells [xorB t data[i]] = [.int .u8 (bits .xor .u8 (data[i].toNat : Int) t)] := by simp only [Lib.byteCells, List.map_cons, List.map_nil, HY.out]
          rw [e]; exact hown5
        clear hown5 hgrow5 HO4 hbB hb4 i1
        go_wp2_with fail
        go_roundw
        case rel => exact ⟨i + 1, ao5, cp5, sb, by omega, by go_num, rfl, rfl, fun hne => by rw [HSN.out]; congr 1; omega, hown6, hb5, hsz5⟩
        case measure => simp [intOf]; omega
    · have hdi : ¬ (i : Int) < (data.size : Int) := by omega
      obtain rfl : i = data.size := by omega
      have hcv : (convert 46 9 (.slice ao data.size cp)).run Tryz.prog wr = .ok (.string ⟨(chaX key.data.toList nonce.data.toList n data.data.toList data.size).toArray⟩) wr := by
        rcases HO.out with ⟨hv, hnil⟩ | ⟨g, cap, hv, hoO⟩
        · have h0 : data.size = 0 := by have := HL.out; rw [hnil] at this; simpa using this.symm
          simp only [Value.slice.injEq] at hv
          obtain ⟨rfl, _, rfl⟩ := hv
          have e0 : chaX key.data.toList nonce.data.toList n data.data.toList data.size = [] := by rw [h0]; rfl
          rw [e0, h0]
          exact run_string_nil wr
        · rw [HL.out] at hv
          simp only [Value.slice.injEq, true_and] at hv
          obtain ⟨rfl, rfl⟩ := hv
          have := run_string_row wr g cp (chaX key.data.toList nonce.data.toList n data.data.toList data.size) (fun j x hx => hoO.cells j _ (by simp [Lib.byteCells, hx]))
          rwa [chaX_length] at this
      clear HO HL HSB
      go_wp2_with fail
      go_ret2
      exact ⟨rfl, by rw [HBB.out]; exact hb⟩
end
end Go.Proofs.YtffnafikegakcaaGreatDoor
