/- The reference's numbers: bytes as numbers, the least first. -/
import Derived.Test.YtnjeelfeaiakpaaChaRef
import Derived.Test.YtnjeelfeaiakpaaMove
namespace Go.Proofs.Ytnjeelfeaiakpaa
open Go.RowKit Go.Sort
set_option maxRecDepth 100000
set_option linter.unusedSimpArgs false
set_option linter.unusedVariables false

theorem info_u32 : (Try.prog.info? 34).map (fun i => (i.zero, i.size, i.bytes)) = some (some (.int .u32 0), 1, 4) := by kernel_rfl
theorem or_le32 (a b c d : UInt8) : bits .or .u32 (bits .or .u32 (bits .or .u32 ((a.toNat : Int) % 4294967296) ((b.toNat : Int) % 4294967296 * 256 % 4294967296)) ((c.toNat : Int) % 4294967296 * 65536 % 4294967296)) ((d.toNat : Int) % 4294967296 * 16777216 % 4294967296) = lw a b c d := by
  have ha := UInt8.toNat_lt a; have hb := UInt8.toNat_lt b; have hc := UInt8.toNat_lt c; have hd := UInt8.toNat_lt d
  unfold lw
  generalize a.toNat = a at *; generalize b.toNat = b at *; generalize c.toNat = c at *; generalize d.toNat = d at *
  rw [show (a : Int) % 4294967296 = a by omega, show (b : Int) % 4294967296 = b by omega, show (c : Int) % 4294967296 = c by omega, show (d : Int) % 4294967296 = d by omega]
  go_bits2
theorem getD_byte (s : ByteArray) (j : Nat) (h : j < s.size) : s.data.toList.getD j 0 = s[j] := by
  have h' : j < s.data.toList.length := by rw [← Lib.size_eq]; exact h
  rw [List.getD_eq_getElem?_getD, List.getElem?_eq_getElem h']
  rfl

theorem index_byte (s : ByteArray) (i : Int) (j : Nat) (hi : i = (j : Int)) (h : j < s.size) (w : World) : (Instr.index 9 (.string s) (.int .i64 i)).run Try.prog w = .ok (.int .u8 (s[j].toNat : Int)) w := by
  subst hi
  rw [run_index_string (P := Try.prog) w 9 s .i64 (j : Int) Try.underlying9]
  simp [h]
set_option maxHeartbeats 2000000 in
theorem numbers_any (s : ByteArray) (m : Nat) (w : World) (hs : s.size = 4 * m) (hm : m ≤ 1000) :
    Calls Try.prog 15 #[.string s] w fun e w' => ∃ ao cap, e = .returned (.slice ao m cap) ∧ Own w' w.heap.size (.slice ao m cap) (u32s (lws s.data.toList m)) ∧ Below w.heap.size w w' := by
  obtain ⟨i0, hi, hz0, hz1, hz2⟩ := info_parts info_u32
  have HS := Lib.hid hs
  have hsl : s.size ≤ 4000 := by omega
  clear hs
  go_enter Try.func15, Try.ntmps15
  go_wp2_with fail
  generalize hBB : w.heap.size = B at *
  have HBB := Lib.hid hBB
  have hszB : B ≤ w.heap.size := by omega
  clear hBB
  go_loopw [3, 4] (fun v i wr => ∃ (j a : Nat) (ao : Option Addr) (cap : Nat), j ≤ m ∧ Hid (a = 4 * j) ∧ i = .int .i64 (a : Int) ∧ v = .slice ao j cap ∧ Own wr B (.slice ao j cap) (u32s (lws s.data.toList j)) ∧ Below B w wr ∧ B ≤ wr.heap.size) (fun _ i _ => s.size - (intOf i).toNat)
  case atStart => exact ⟨0, 0, none, 0, by omega, Lib.hid rfl, rfl, rfl, Own.nil _ _, Below.refl _ _, hszB⟩
  case round =>
    obtain ⟨j, a, ao, cap, hj, HA, rfl, rfl, hown, hb, hsz⟩ := hrel
    have HO := Lib.hid hown
    have HL := Lib.hid (show (u32s (lws s.data.toList j)).length = j from by rw [u32s_length, lws_length])
    clear hown
    by_cases hlt : j < m
    · have ha3 : a + 3 < s.size := by have := HA.out; have := HS.out; omega
      have hd : (a : Int) < (s.size : Int) := by omega
      have p1 : (a : Int) + 1 < (s.size : Int) := by omega
      have p2 : (a : Int) + 2 < (s.size : Int) := by omega
      have p3 : (a : Int) + 3 < (s.size : Int) := by omega
      have HN := Lib.hid (show lws s.data.toList (j + 1) = lws s.data.toList j ++ [lw s[a] s[a + 1] s[a + 2] s[a + 3]] from by
        rw [lws_succ, ← HA.out, getD_byte s a (by omega), getD_byte s (a + 1) (by omega), getD_byte s (a + 2) (by omega), getD_byte s (a + 3) (by omega)])
      have i1 := index_byte s ((a : Int) + 1) (a + 1) (by omega) (by omega)
      have i2 := index_byte s ((a : Int) + 2) (a + 2) (by omega) (by omega)
      have i3 := index_byte s ((a : Int) + 3) (a + 3) (by omega) (by omega)
      go_wp2_with fail
      refine wp_region_moves_tail 26 _ rfl rfl rfl (by kernel_rfl) (by kernel_rfl) (fun _ _ _ _ h => h) ?_
      simp only [Nat.reduceSub, List.take_succ_cons, List.take_zero, List.drop_succ_cons, List.drop_zero]
      dsimp only [Act.put, Act.eval]
      repeat (first | go_big_quiet_step (fail) | quiet_step (fail))
      refine wpQuiet_nil ?_
      intro W4 hb4
      have HO4 := Lib.hid (HO.out.below hb4)
      have hbB : Below B w W4 := hb.trans (hb4.mono hsz)
      have hsz4 := Nat.le_trans hsz hb4.size
      go_wp2_with (at_builtin; refine wpList_append_sl rfl (.tmp 11) (.tmp 37) 39 rfl B 34 i0 (.int .u32 0) 4 Try.underlying39 hi hz0 hz1 hz2 rfl ao j cap _ rfl (HO4.out.alloc _) HL.out ⟨W4.heap.size, 0, none⟩ 1 1 [.int .u32 _] rfl rfl (cell_one_new _ _ _) ?b2 ?b3 ?b4 ?b5 ?_)
      case b2 => intro u hu; simp at hu; subst hu; rfl
      case b3 => omega
      case b4 => omega
      case b5 => simp; omega
      intro ao5 cp5 W5 hown5 hgrow5
      have hb5 : Below B w W5 := below_append (hbB.alloc hsz4 _) (by simp; omega) (HO4.out.alloc _) hgrow5
      have hsz5 : B ≤ W5.heap.size := by have := hgrow5.size; simp at this; omega
      rw [or_le32, u32s_snoc, ← HN.out] at hown5
      clear hgrow5 HO HO4 hb4 hbB hb hsz hsz4
      go_wp2_with fail
      go_roundw
      case rel => exact ⟨j + 1, a + 4, ao5, cp5, by omega, Lib.hid (by have := HA.out; omega), by go_num, rfl, hown5, hb5, hsz5⟩
      case measure => simp [intOf]; omega
    · obtain rfl : j = m := by omega
      have hd : ¬ (a : Int) < (s.size : Int) := by have := HA.out; have := HS.out; omega
      go_wp2_with fail
      go_ret
      exact ⟨ao, cap, rfl, by rw [HBB.out]; exact HO.out, by rw [HBB.out]; exact hb⟩
end Go.Proofs.Ytnjeelfeaiakpaa
