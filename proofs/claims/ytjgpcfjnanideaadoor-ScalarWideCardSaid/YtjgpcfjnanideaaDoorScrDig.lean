/- The reference's digits of bytes, and its bytes of digits. -/
import Derived.Test.YtjgpcfjnanideaaDoorScrRest
import Derived.Test.YtjgpcfjnanideaaDoorScaLimb
namespace Go.Proofs.YtjgpcfjnanideaaDoor
open Go.RowKit Go.Sort
set_option maxRecDepth 100000
set_option linter.unusedSimpArgs false
set_option linter.unusedVariables false

theorem ofL_val (l : List UInt8) (n : Nat) (h : l.length = 2 * n) : dS (ofL l n) n = nV l := by
  rw [leV_digits l (ofL l n) n (fun j hj => by rw [ofL, nrange_getD _ _ _ hj]), ← nV_leV, h]
theorem DigsAt.of_own {W : World} {base g cap n : Nat} {l : List Nat} (h : OwnS W base g cap (dvl l)) (hl : l.length = n) : DigsAt W n (.slice (some ⟨g, 0, none⟩) n cap) l :=
  ⟨g, cap, rfl, fun j hj => h.cells j _ (dvl_get l j (by omega))⟩
theorem DigsAt.step {W W' : World} {n : Nat} {v : Value} {l : List Nat} (h : DigsAt W n v l) (hb : Below W.heap.size W W') : DigsAt W' n v l := by
  obtain ⟨D, cap, hv, hc⟩ := h
  exact ⟨D, cap, hv, fun j hj => (hb.cell (block_lt_of_cell (hc j hj))).trans (hc j hj)⟩

set_option maxHeartbeats 4000000 in
theorem digitsRef_any (s : ByteArray) (n : Nat) (w : World) (h : s.size = 2 * n) (hn0 : 0 < n) (hn : n ≤ 64) :
    Calls Tryd.prog 22 #[.string s] w fun e w' => (∃ d', e = .returned d' ∧ DigsAt w' n d' (ofL s.data.toList n)) ∧ Below w.heap.size w w' := by
  obtain ⟨i0, hi, hz0, hz1, hz2⟩ := info_parts infoF_int
  have HH := Lib.hid h
  clear h
  go_enter Tryd.func22, Tryd.ntmps22
  go_wp2_with fail
  generalize hBB : w.heap.size = B at *
  have HBB := Lib.hid hBB
  have hszB : B ≤ w.heap.size := by omega
  clear hBB
  go_loopw [3, 4] (fun lv iv wr => ∃ (k m : Nat) (ao : Option Addr) (cap : Nat), k ≤ n ∧ m = 2 * k ∧ iv = .int .i64 (m : Int) ∧ lv = .slice ao k cap ∧ Own wr B (.slice ao k cap) (dvl (ofL s.data.toList k)) ∧ Below B w wr ∧ B ≤ wr.heap.size) (fun _ iv _ => 2 * n - (intOf iv).toNat)
  case atStart => exact ⟨0, 0, none, 0, by omega, rfl, rfl, rfl, Own.nil _ _, Below.refl _ _, hszB⟩
  case round =>
    obtain ⟨k, m, ao, cap, hk, hm, rfl, rfl, hown, hb, hsz⟩ := hrel
    have HM := Lib.hid hm
    have HO := Lib.hid hown
    have HL := Lib.hid (show (dvl (ofL s.data.toList k)).length = k by rw [dvl_length, ofL_length])
    clear hown
    by_cases hlt : k < n
    · have hdk : decide (m < s.size) = true := by rw [HH.out]; simp; omega
      have hin1 : m < s.size := by rw [HH.out]; omega
      have hin2 : m + 1 < s.size := by rw [HH.out]; omega
      have HN := Lib.hid (ofL_snoc s.data.toList k)
      rw [← hm, getDF_byte s _ hin1, getDF_byte s _ hin2] at HN
      have hx := UInt8.toNat_lt s[m]; have hy := UInt8.toNat_lt s[m + 1]
      have hm32 : m < 128 := by omega
      have htn : ((m : Int) + 1).toNat = m + 1 := by omega
      have hin3 : (0 : Int) ≤ (m : Int) + 1 ∧ (m : Int) + 1 < (s.size : Int) := by omega
      have hin4 : (m : Int) + 1 < (s.size : Int) := by omega
      have hin5 : (0 : Int) ≤ (m : Int) + 1 := by omega
      clear hm
      go_wp2_with fail
      refine wp_region_moves_tail 12 (.tmp 3) rfl rfl rfl (by kernel_rfl) (by kernel_rfl) (fun _ _ _ _ h => h) ?_
      simp only [List.take_succ_cons, List.take_zero, List.drop_succ_cons, List.drop_zero]
      repeat (first | go_big_quiet_step (fail) | quiet_step (fail))
      refine wpQuiet_nil ?_
      intro W1 hb1
      have HO1 := Lib.hid (HO.out.below hb1)
      have hB1 : Below B w W1 := hb.trans (hb1.mono hsz)
      have hsz1 : B ≤ W1.heap.size := Nat.le_trans hsz hb1.size
      have hcast : (((s[m].toNat + 256 * s[m + 1].toNat : Nat)) : Int) = (s[m].toNat : Int) + 256 * (s[m + 1].toNat : Int) := by omega
      rw [hcast] at HN
      clear hcast HO hb hb1 hsz
      generalize s[m].toNat = p at *
      generalize s[m + 1].toNat = q at *
      clear hin3 hin4 hin5 htn
      go_wp2_with (at_builtin; refine wpList_append_sl rfl (.tmp 11) (.tmp 23) 37 rfl B 3 i0 (.int .i64 0) 8 Tryd.underlying37 hi hz0 hz1 hz2 rfl ao k cap _ rfl (HO1.out.alloc _) HL.out ⟨W1.heap.size, 0, none⟩ 1 1 [.int .i64 ((p : Int) + 256 * (q : Int))] rfl rfl (cell_one_new _ _ _) ?b2 ?b3 ?b4 ?b5 ?_)
      case b2 => intro u hu; simp at hu; subst hu; rfl
      case b3 => omega
      case b4 => omega
      case b5 => simp; omega
      intro ao5 cp5 W5 hown5 hgrow5
      have hb5 : Below B w W5 := below_append (hB1.alloc hsz1 _) (by simp; omega) (HO1.out.alloc _) hgrow5
      have hsz5 : B ≤ W5.heap.size := by have := hgrow5.size; simp at this; omega
      rw [HN.out] at hown5
      clear hgrow5 HO1 hB1
      go_wp2_with fail
      go_roundw
      case rel => exact ⟨k + 1, m + 2, ao5, cp5, by omega, by rw [HM.out]; omega, by go_num, rfl, hown5, hb5, hsz5⟩
      case measure => have := HM.out; simp [intOf]; omega
    · have hdk : decide (m < s.size) = false := by rw [HH.out]; simp; omega
      have hdk2 : ¬ m < s.size := by rw [HH.out]; omega
      obtain rfl : k = n := by omega
      obtain ⟨g, gc, hvv, hown, hgl⟩ := HO.out.some (by rw [HL.out]; omega)
      have hv2 : Value.slice ao k cap = .slice (some ⟨g, 0, none⟩) k gc := by rw [hvv, HL.out]
      injection hv2 with h1 h2 h3
      subst h1 h3
      clear hvv
      have HDg : Hid (DigsAt wr k (.slice (some ⟨g, 0, none⟩) k cap) (ofL s.data.toList k)) := Lib.hid (DigsAt.of_own hown (ofL_length _ _))
      clear hown HO
      go_wp2_with fail
      go_ret
      exact ⟨⟨_, rfl, HDg.out⟩, by rw [HBB.out]; exact hb⟩

set_option maxHeartbeats 4000000 in
theorem bytesRef10_any (da : Value) (x : Nat) (w : World) (ha : DigAt w da (digN x)) :
    Calls Tryd.prog 20 #[da] w fun e w' => e = .returned (.string ⟨(leF x 32).toArray⟩) ∧ Below w.heap.size w w' := by
  obtain ⟨i0, hi, hz0, hz1, hz2⟩ := info_parts info_u8
  obtain ⟨Da, ca, rfl, hca⟩ := ha
  have HCA := Lib.hid hca
  have HA := Lib.hid (digN_lt x)
  have HLF := Lib.hid (fun k => leF_two x k)
  have hla := block_lt_of_cell (hca 0 (by decide))
  clear hca
  go_enter Tryd.func20, Tryd.ntmps20
  go_wp2_with fail
  generalize hBB : w.heap.size = B at *
  have HBB := Lib.hid hBB
  have hszB : B ≤ w.heap.size := by omega
  clear hBB
  go_loopw [3, 4] (fun lv iv wr => ∃ (k n : Nat) (ao : Option Addr) (cap : Nat), k ≤ 16 ∧ n = 2 * k ∧ iv = .int .i64 (k : Int) ∧ lv = .slice ao n cap ∧ Own wr B (.slice ao n cap) (Lib.byteCells (leF x n)) ∧ Below B w wr ∧ B ≤ wr.heap.size) (fun _ iv _ => 16 - (intOf iv).toNat)
  case atStart => exact ⟨0, 0, none, 0, by omega, rfl, rfl, rfl, Own.nil _ _, Below.refl _ _, hszB⟩
  case round =>
    obtain ⟨k, n, ao, cap, hk, hn, rfl, rfl, hown, hb, hsz⟩ := hrel
    have HO := Lib.hid hown
    have HL := Lib.hid (show (Lib.byteCells (leF x n)).length = n by rw [Lib.byteCells_length, leF_length])
    clear hown
    by_cases hlt : k < 16
    · have hdk : decide ((k : Int) < 16) = true := by simp; omega
      have c1 := (hb.cell (p := ⟨Da, k, none⟩) hla).trans (HCA.out k hlt)
      have hd1 := HA.out k hlt
      have HN := Lib.hid (HLF.out k)
      rw [← digN_get x k hlt, ← hn] at HN
      generalize (digN x).getD k 0 = d at *
      have hb0 : (UInt8.ofNat d).toNat = d % 256 := by rw [UInt8.toNat_ofNat']
      have hb1 : (UInt8.ofNat (d / 256)).toNat = d / 256 % 256 := by rw [UInt8.toNat_ofNat']
      have HNS := Lib.hid (show Lib.byteCells (leF x n) ++ [.int .u8 (((UInt8.ofNat d).toNat : Nat) : Int), .int .u8 (((UInt8.ofNat (d / 256)).toNat : Nat) : Int)] = Lib.byteCells (leF x (2 * (k + 1))) by rw [← HN.out, Lib.byteCells_append]; rfl)
      generalize UInt8.ofNat d = b0 at *
      generalize UInt8.ofNat (d / 256) = b1 at *
      have hv0 : (b0.toNat : Int) = (d : Int) % 256 := by omega
      have hv1 : (b1.toNat : Int) = (d : Int) / 256 := by omega
      have hn32 : n ≤ 30 := by omega
      have HNE := Lib.hid (show 2 * (k + 1) = n + 2 by omega)
      rw [hv0, hv1] at HNS
      clear HN hb0 hb1 hn hv0 hv1
      go_wp2_with fail
      have ka := cell_regrown c1
      refine wp_region_moves_tail 12 (.tmp 3) rfl rfl rfl (by kernel_rfl) (by kernel_rfl) (fun _ _ _ _ h => h) ?_
      simp only [List.take_succ_cons, List.take_zero, List.drop_succ_cons, List.drop_zero]
      repeat (first | go_big_quiet_step (fail) | quiet_step (fail))
      refine wpQuiet_nil ?_
      intro W1 hb1
      have HO1 := Lib.hid (HO.out.below hb1)
      have hB1 : Below B w W1 := hb.trans (hb1.mono hsz)
      have hsz1 : B ≤ W1.heap.size := Nat.le_trans hsz hb1.size
      clear HO hb hb1 hsz ka c1
      go_wp2_with (at_builtin; refine wpList_append_sl rfl (.tmp 9) (.tmp 21) 45 rfl B 5 i0 (.int .u8 0) 1 Tryd.underlying45 hi hz0 hz1 hz2 rfl ao n cap _ rfl (HO1.out.alloc _) HL.out ⟨W1.heap.size, 0, none⟩ 2 2 [.int .u8 ((d : Int) % 256), .int .u8 ((d : Int) / 256)] rfl rfl (cell_two_new _ _ _ _) ?b2 ?b3 ?b4 ?b5 ?_)
      case b2 => intro u hu; simp at hu; rcases hu with rfl | rfl <;> rfl
      case b3 => omega
      case b4 => omega
      case b5 => simp; omega
      intro ao5 cp5 W5 hown5 hgrow5
      have hb5 : Below B w W5 := below_append (hB1.alloc hsz1 _) (by simp; omega) (HO1.out.alloc _) hgrow5
      have hsz5 : B ≤ W5.heap.size := by have := hgrow5.size; simp at this; omega
      rw [HNS.out, HNE.out] at hown5
      clear hgrow5 HO1 hB1
      go_wp2_with fail
      go_roundw
      case rel => exact ⟨k + 1, n + 2, ao5, cp5, by omega, HNE.out.symm, by go_num, rfl, hown5, hb5, hsz5⟩
      case measure => simp [intOf]; omega
    · have hdk : decide ((k : Int) < 16) = false := by simp; omega
      obtain rfl : k = 16 := by omega
      obtain rfl : n = 32 := by omega
      have hc := run_string_ownF HO.out (leF_length x 32) (by decide)
      generalize hrow : leF x 32 = row at *
      have HROW := Lib.hid hrow
      clear hrow HO HL hn
      go_wp2_with fail
      go_ret
      exact ⟨by rw [HROW.out]; rfl, by rw [HBB.out]; exact hb⟩
end Go.Proofs.YtjgpcfjnanideaaDoor
