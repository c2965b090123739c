/- The reference's Times, stirred, Swap; The reference's table; The reference's with: a state exclusive or a key; The reference's round keys; The reference's Under: a block under a key that is made ready; The reference's Ready, Block, Keys. -/
import Derived.Test.YtffnafikegakcaaGreatDoorAesA
import Derived.Test.YtffnafikegakcaaGreatDoorBase
import Derived.BigQuiet
import Derived.Test.YtffnafikegakcaaGreatDoorAesP
namespace Go.Proofs.YtffnafikegakcaaGreatDoor
section
open Go.RowKit Go.Sort
set_option maxRecDepth 100000
set_option linter.unusedSimpArgs false
set_option linter.unusedVariables false

theorem ax_ofInt (a : Nat) (ha : a < 2 ^ 62) : (BitVec.ofInt 64 (a : Int)).toNat = a := by rw [BitVec.toNat_ofInt]; omega
theorem ax_xor (a b : Nat) (ha : a < 2 ^ 62) (hb : b < 2 ^ 62) : bits .xor .i64 (a : Int) (b : Int) = ((a ^^^ b : Nat) : Int) := by
  have hx : a ^^^ b < 2 ^ 62 := Nat.xor_lt_two_pow ha hb
  show IntKind.i64.wrap ((BitVec.ofInt 64 (a : Int) ^^^ BitVec.ofInt 64 (b : Int)).toNat : Int) = _
  rw [BitVec.toNat_xor, ax_ofInt a ha, ax_ofInt b hb, IntKind.wrap_i64]
  omega
theorem ax_or (a b : Nat) (ha : a < 2 ^ 62) (hb : b < 2 ^ 62) : bits .or .i64 (a : Int) (b : Int) = ((a ||| b : Nat) : Int) := by
  have hx : a ||| b < 2 ^ 62 := Nat.or_lt_two_pow ha hb
  show IntKind.i64.wrap ((BitVec.ofInt 64 (a : Int) ||| BitVec.ofInt 64 (b : Int)).toNat : Int) = _
  rw [BitVec.toNat_or, ax_ofInt a ha, ax_ofInt b hb, IntKind.wrap_i64]
  omega
theorem ax_and (a b : Nat) (ha : a < 2 ^ 62) (hb : b < 2 ^ 62) : bits .and .i64 (a : Int) (b : Int) = ((a &&& b : Nat) : Int) := by
  have hx : a &&& b < 2 ^ 62 := Nat.and_lt_two_pow _ hb
  show IntKind.i64.wrap ((BitVec.ofInt 64 (a : Int) &&& BitVec.ofInt 64 (b : Int)).toNat : Int) = _
  rw [BitVec.toNat_and, ax_ofInt a ha, ax_ofInt b hb, IntKind.wrap_i64]
  omega
theorem ax_bit (b k : Nat) (hb : b < 256) : bits .and .i64 ((b : Int) / 2 ^ k) 1 = ((b / 2 ^ k % 2 : Nat) : Int) := by
  have h := ax_and (b / 2 ^ k) 1 (by have := Nat.div_le_self b (2 ^ k); omega) (by decide)
  have e : ((b / 2 ^ k : Nat) : Int) = (b : Int) / 2 ^ k := by simp
  rw [e] at h
  rw [show (1 : Int) = ((1 : Nat) : Int) from rfl, h, Nat.and_one_is_mod]

set_option maxHeartbeats 1000000 in
theorem refTimes_any (a b : Nat) (w : World) (ha : a < 256) (hb : b < 256) :
    Calls Tryz.prog 101 #[.int .i64 (a : Int), .int .i64 (b : Int)] w fun e w' => e = .returned (.int .i64 ((tm a b : Nat) : Int)) ∧ w = w' := by
  go_enter Tryz.func101, Tryz.ntmps101
  go_wp2_with fail
  go_loopw [0, 5, 6] (fun av ov i wr => ∃ k : Nat, k ≤ 8 ∧ i = .int .i64 (k : Int) ∧ av = .int .i64 (((tmS a b k).2 : Nat) : Int) ∧ ov = .int .i64 (((tmS a b k).1 : Nat) : Int) ∧ w = wr) (fun _ _ i _ => 8 - (intOf i).toNat)
  case atStart => exact ⟨0, by omega, rfl, rfl, rfl, rfl⟩
  case round =>
    obtain ⟨k, hk, rfl, rfl, rfl, rfl⟩ := hrel
    by_cases hlt : k < 8
    · have hd : decide ((k : Int) < 8) = true := by simp; omega
      obtain ⟨l1, l2⟩ := tmS_lt a b ha k
      have HS1 : Hid ((tmS a b (k + 1)).1 = if (b / 2 ^ k) % 2 = 1 then (tmS a b k).1 ^^^ (tmS a b k).2 else (tmS a b k).1) := Lib.hid rfl
      have HS2 : Hid ((tmS a b (k + 1)).2 = dbR (tmS a b k).2) := Lib.hid rfl
      have hbit := ax_bit b k hb
      have hx := ax_xor (tmS a b k).1 (tmS a b k).2 (by omega) (by omega)
      have hy := ax_xor ((tmS a b k).2 * 2) 283 (by omega) (by decide)
      have e2 : IntKind.i64.wrap (((tmS a b k).2 : Int) * 2) = ((tmS a b k).2 : Int) * 2 := IntWalk.i64_in _ (by omega)
      rw [show (((tmS a b k).2 * 2 : Nat) : Int) = ((tmS a b k).2 : Int) * 2 by simp, show ((283 : Nat) : Int) = 283 from rfl] at hy
      have HY := Lib.hid hy; have HX := Lib.hid hx
      clear hx hy
      generalize (tmS a b k).1 = o at *
      generalize (tmS a b k).2 = x at *
      by_cases hone : (b / 2 ^ k) % 2 = 1
      · have hb1 : (bits .and .i64 ((b : Int) / 2 ^ k) 1 == 1) = true := by rw [hbit, hone]; rfl
        clear hbit
        by_cases hbig : 255 < x * 2
        · have hg : decide ((255 : Int) < (x : Int) * 2) = true := by simp; omega
          go_wp2_with fail
          go_roundw
          case rel => exact ⟨k + 1, by omega, by go_num, by rw [HS2.out, dbR, if_pos hbig, ← HY.out], by rw [HS1.out, if_pos hone, ← HX.out], by first | rfl | trivial⟩
          case measure => simp [intOf]; omega
        · have hg : decide ((255 : Int) < (x : Int) * 2) = false := by simp; omega
          go_wp2_with fail
          go_roundw
          case rel => exact ⟨k + 1, by omega, by go_num, by rw [HS2.out, dbR, if_neg hbig]; simp, by rw [HS1.out, if_pos hone, ← HX.out], by first | rfl | trivial⟩
          case measure => simp [intOf]; omega
      · have hb1 : (bits .and .i64 ((b : Int) / 2 ^ k) 1 == 1) = false := by rw [hbit, show (b / 2 ^ k) % 2 = 0 by omega]; rfl
        clear hbit
        by_cases hbig : 255 < x * 2
        · have hg : decide ((255 : Int) < (x : Int) * 2) = true := by simp; omega
          go_wp2_with fail
          go_roundw
          case rel => exact ⟨k + 1, by omega, by go_num, by rw [HS2.out, dbR, if_pos hbig, ← HY.out], by rw [HS1.out, if_neg hone], by first | rfl | trivial⟩
          case measure => simp [intOf]; omega
        · have hg : decide ((255 : Int) < (x : Int) * 2) = false := by simp; omega
          go_wp2_with fail
          go_roundw
          case rel => exact ⟨k + 1, by omega, by go_num, by rw [HS2.out, dbR, if_neg hbig]; simp, by rw [HS1.out, if_neg hone], by first | rfl | trivial⟩
          case measure => simp [intOf]; omega
    · have hd : decide ((k : Int) < 8) = false := by simp; omega
      obtain rfl : k = 8 := by omega
      go_wp2_with fail
      go_ret
      exact ⟨rfl, rfl⟩

theorem stS_lt (v : Nat) (hv : v < 256) : ∀ k, stS v k < 256
  | 0 => by simp [stS]
  | k + 1 => xor_lt8 (stS_lt v hv k) (Nat.lt_of_le_of_lt Nat.and_le_right (by decide))
theorem stir_walk (o v k : Nat) (ho : o < 256) (hv : v < 256) (hk : k < 5) : bits .xor .i64 (o : Int) (bits .and .i64 (bits .or .i64 ((v : Int) * 2 ^ k) ((v : Int) / 2 ^ (8 - k))) 255) = ((o ^^^ ((v * 2 ^ k ||| v / 2 ^ (8 - k)) &&& 255) : Nat) : Int) := by
  have hp : 2 ^ k ≤ 16 := by
    have : 2 ^ k ≤ 2 ^ 4 := Nat.pow_le_pow_right (by decide) (by omega)
    simpa using this
  have h1 : v * 2 ^ k < 2 ^ 62 := by
    have : v * 2 ^ k ≤ 255 * 16 := Nat.mul_le_mul (by omega) hp
    omega
  have h2 : v / 2 ^ (8 - k) < 2 ^ 62 := by have := Nat.div_le_self v (2 ^ (8 - k)); omega
  have e1 : (v : Int) * 2 ^ k = ((v * 2 ^ k : Nat) : Int) := by simp
  have e2 : (v : Int) / 2 ^ (8 - k) = ((v / 2 ^ (8 - k) : Nat) : Int) := by simp
  have h3 : v * 2 ^ k ||| v / 2 ^ (8 - k) < 2 ^ 62 := Nat.or_lt_two_pow h1 h2
  rw [e1, e2, ax_or _ _ h1 h2, show (255 : Int) = ((255 : Nat) : Int) from rfl, ax_and _ _ h3 (by decide), ax_xor _ _ (by omega) (Nat.lt_of_le_of_lt Nat.and_le_right (by decide))]

set_option maxHeartbeats 1000000 in
theorem stirred_any (v : Nat) (w : World) (hv : v < 256) :
    Calls Tryz.prog 102 #[.int .i64 (v : Int)] w fun e w' => e = .returned (.int .u8 ((stN v : Nat) : Int)) ∧ Below w.heap.size w w' := by
  go_enter Tryz.func102, Tryz.ntmps102
  go_wp2_with fail
  go_loopw [3, 4] (fun ov i wr => ∃ k : Nat, k ≤ 5 ∧ i = .int .i64 (k : Int) ∧ ov = .int .i64 ((stS v k : Nat) : Int) ∧ Below w.heap.size w wr) (fun _ i _ => 5 - (intOf i).toNat)
  case atStart => exact ⟨0, by omega, rfl, rfl, Below.refl _ _⟩
  case round =>
    obtain ⟨k, hk, rfl, rfl, hb⟩ := hrel
    by_cases hlt : k < 5
    · have hd : decide ((k : Int) < 5) = true := by simp; omega
      have HS : Hid (stS v (k + 1) = stS v k ^^^ ((v * 2 ^ k ||| v / 2 ^ (8 - k)) &&& 255)) := Lib.hid rfl
      have HW := Lib.hid (stir_walk (stS v k) v k (stS_lt v hv k) hv hlt)
      have e8 : (8 - (k : Int)).toNat = 8 - k := by omega
      have n8 : (0 : Int) ≤ 8 - (k : Int) := by omega
      have hp : (v : Int) * 2 ^ k ≤ 4080 := by
        have hp : 2 ^ k ≤ 16 := by
          have : 2 ^ k ≤ 2 ^ 4 := Nat.pow_le_pow_right (by decide) (by omega)
          simpa using this
        have : v * 2 ^ k ≤ 255 * 16 := Nat.mul_le_mul (by omega) hp
        have e1 : (v : Int) * 2 ^ k = ((v * 2 ^ k : Nat) : Int) := by simp
        rw [e1]; omega
      have hp0 : 0 ≤ (v : Int) * 2 ^ k := by
        have e1 : (v : Int) * 2 ^ k = ((v * 2 ^ k : Nat) : Int) := by simp
        rw [e1]; omega
      have ew : IntKind.i64.wrap ((v : Int) * 2 ^ k) = (v : Int) * 2 ^ k := IntWalk.i64_in _ (by omega)
      generalize stS v k = o at *
      go_wp2_with fail
      go_quiet (fail)
      go_wp2_with fail
      go_roundw
      case rel => exact ⟨k + 1, by omega, by go_num, by rw [HS.out, ← HW.out], below_drewN hb _⟩
      case measure => simp [intOf]; omega
    · have hd : decide ((k : Int) < 5) = false := by simp; omega
      obtain rfl : k = 5 := by omega
      have hl := stS_lt v hv 5
      have hm : ((stS v 5 : Nat) : Int) % 256 = ((stS v 5 : Nat) : Int) := by omega
      go_wp2_with fail
      go_ret
      exact ⟨by first | rfl | (rw [← hm]; rfl), hb⟩

theorem ivS_lt (b : Nat) : ∀ k, k ≤ 255 → ivS b k < 256
  | 0, _ => by simp [ivS]
  | k + 1, h => by
    rw [ivS]
    split
    · omega
    · exact ivS_lt b k (by omega)
theorem iv_sb (b : Nat) (h : b < 256) : stN (ivS b 255) = sbT b := by simpa using List.all_eq_true.1 iv_all b (List.mem_range.2 h)
end

section
open Go.RowKit Go.Sort
set_option maxRecDepth 100000
set_option linter.unusedSimpArgs false
set_option linter.unusedVariables false

theorem ainfo_int : (Tryz.prog.info? 3).map (fun i => (i.zero, i.size, i.bytes)) = some (some (.int .i64 0), 1, 8) := by kernel_rfl
/-- The powers of 3, as cells. -/
def p3V (n : Nat) : List Value := (List.range n).map fun i => Value.int .i64 ((p3 i : Nat) : Int)
theorem p3V_length (n : Nat) : (p3V n).length = n := by simp [p3V]
theorem p3V_snoc (n : Nat) : p3V n ++ [.int .i64 ((p3 n : Nat) : Int)] = p3V (n + 1) := by simp [p3V, List.range_succ]
theorem p3V_get (n j : Nat) (h : j < n) : (p3V n)[j]? = some (.int .i64 ((p3 j : Nat) : Int)) := by simp [p3V, h]
theorem p3_lt (k : Nat) (h : k < 255) : p3 k < 256 := by simpa using List.all_eq_true.1 p3_all k (List.mem_range.2 h)
theorem tabS_length : ∀ k, (tabS k).length = 256
  | 0 => by rw [tabS, List.length_set, List.length_replicate]
  | k + 1 => by rw [tabS, List.length_set, tabS_length k]
theorem stN_lt (v : Nat) (h : v < 256) : stN v < 256 := stS_lt v h 5
def zeros256 : Array Value := bcells (List.replicate 256 0)
theorem make256 (W : World) : (Instr.makeSlice 46 (.int .i64 256) (.int .i64 256)).run Tryz.prog W = .ok (.slice (some ⟨W.heap.size, 0, none⟩) 256 256) (W.alloc (.cells zeros256 5)) := by
  obtain ⟨i0, hi, hz0, hz1, hz2⟩ := info_parts info_u8
  have h := run_make (P := Tryz.prog) W 46 5 i0 (.int .u8 0) Tryz.underlying46 hi hz0 .i64 .i64 256 256 (by omega) (by omega) (by rw [hz2]; omega) (by omega)
  have e : madeCells (Value.int .u8 0).cells ((256 : Int).toNat * i0.size) = zeros256 := by rw [hz1, made_zero]; rfl
  rw [e] at h
  exact h

set_option maxHeartbeats 2000000 in
theorem table_any (w : World) :
    Calls Tryz.prog 70 #[] w fun e w' => (∃ G, e = .returned (.slice (some ⟨G, 0, none⟩) 256 256) ∧ w.heap.size ≤ G ∧ w'.heap[G]? = some (.cells (bcells tabL) 5)) ∧ Below w.heap.size w w' := by
  obtain ⟨i0, hi, hz0, hz1, hz2⟩ := info_parts ainfo_int
  go_enter Tryz.func70, Tryz.ntmps70
  go_wp2_with fail
  generalize hBB : w.heap.size = B at *
  have HBB := Lib.hid hBB
  have hszB : B ≤ w.heap.size := by omega
  clear hBB
  go_loopw [1, 2, 3] (fun v x i wr => ∃ (k : Nat) (ao : Option Addr) (cap : Nat), k ≤ 255 ∧ i = .int .i64 (k : Int) ∧ x = .int .i64 ((p3 k : Nat) : Int) ∧ v = .slice ao k cap ∧ Own wr B (.slice ao k cap) (p3V k) ∧ Below B w wr ∧ B ≤ wr.heap.size) (fun _ _ i _ => 255 - (intOf i).toNat)
  case atStart => exact ⟨0, none, 0, by omega, rfl, rfl, rfl, Own.nil _ _, Below.refl _ _, hszB⟩
  case round =>
    obtain ⟨k, ao, cap, hk, rfl, rfl, rfl, hown, hb, hsz⟩ := hrel
    have HO := Lib.hid hown
    have HL := Lib.hid (p3V_length k)
    clear hown
    by_cases hlt : k < 255
    · have hd : decide ((k : Int) < 255) = true := by simp; omega
      have HT := Lib.hid (fun W => refTimes_any (p3 k) 3 W (p3_lt k hlt) (by omega))
      rw [show tm (p3 k) 3 = p3 (k + 1) from rfl] at HT
      have HN := Lib.hid (p3V_snoc k)
      go_wp2_with (at_builtin; refine wpList_append_sl rfl (.tmp 10) (.tmp 12) 109 rfl B 3 i0 (.int .i64 0) 8 Tryz.underlying109 hi hz0 hz1 hz2 rfl ao k cap _ rfl (HO.out.alloc _) HL.out ⟨wr.heap.size, 0, none⟩ 1 1 [.int .i64 ((p3 k : Nat) : Int)] rfl rfl (cell_one_new _ _ _) ?b2 ?b3 ?b4 ?b5 ?_)
      case b2 => intro u hu; simp at hu; subst hu; rfl
      case b3 => omega
      case b4 => omega
      case b5 => simp; omega
      intro ao5 cp5 W5 hown5 hgrow5
      have hb5 : Below B w W5 := below_append (hb.alloc hsz _) (by simp; omega) (HO.out.alloc _) hgrow5
      have hsz5 : B ≤ W5.heap.size := by have := hgrow5.size; simp at this; omega
      rw [HN.out] at hown5
      clear hgrow5 HO hb
      go_wp2_with fail
      refine (HT.out _).mono ?_
      rintro e W6 ⟨rfl, rfl⟩
      go_wp2_with fail
      go_roundw
      case rel => exact ⟨k + 1, ao5, cp5, by omega, by go_num, rfl, rfl, hown5, hb5, hsz5⟩
      case measure => simp [intOf]; omega
    · have hd : decide ((k : Int) < 255) = false := by simp; omega
      obtain rfl : k = 255 := by omega
      obtain ⟨g, gc, hv, hown, hgl⟩ := HO.out.some (by rw [HL.out]; omega)
      have hv2 : Value.slice ao 255 cap = .slice (some ⟨g, 0, none⟩) 255 gc := by rw [hv, HL.out]
      injection hv2 with h1 h2 h3
      subst h1 h3
      have hmk := make256
      have HPc := Lib.hid (fun j (hj : j < 255) => hown.cells j _ (p3V_get 255 j hj))
      have HG0 := Lib.hid (blk_new wr (.cells zeros256 5))
      have hgB : g ≠ wr.heap.size := by omega
      have HG1 := Lib.hid (show (wr.alloc (.cells (zeros256.setIfInBounds 0 (.int .u8 99)) 5)).heap[wr.heap.size]? = some (.cells (bcells (tabS 0)) 5) from by rw [show (zeros256.setIfInBounds 0 (.int .u8 99)) = bcells (tabS 0) from bcells_set _ 0 99]; exact blk_new _ _)
      have hc0 := bcell_at HG0.out 0 (by rw [List.length_replicate]; omega)
      have hf0 := frozen_of_row (wr.alloc (.cells zeros256 5)) wr.heap.size 0 _ _ HG0.out
      have hb2 : Below wr.heap.size wr (wr.alloc (.cells (zeros256.setIfInBounds 0 (.int .u8 99)) 5)) := below_new wr _
      have HPc2 := Lib.hid (fun j (hj : j < 255) => (hb2.cell (p := ⟨g, j, none⟩) hgl).trans (HPc.out j hj))
      have hb3 := hb.trans (hb2.mono hsz)
      clear hown HPc HO HL hb2 hb
      go_wp2_with fail
      clear hmk hc0 hf0 HG0
      have hgl' := hgl
      generalize World.alloc wr (.cells (zeros256.setIfInBounds 0 (.int .u8 99)) 5) = W2 at *
      generalize hGG : wr.heap.size = G at *
      clear hGG
      go_loopw [5] (fun i ws => ∃ k : Nat, k ≤ 255 ∧ i = .int .i64 (k : Int) ∧ ws.heap[G]? = some (.cells (bcells (tabS k)) 5) ∧ (∀ j, j < 255 → ws.cell? ⟨g, j, none⟩ = some (.int .i64 ((p3 j : Nat) : Int))) ∧ Below B w ws) (fun i _ => 255 - (intOf i).toNat)
      case atStart => exact ⟨0, by omega, rfl, HG1.out, HPc2.out, hb3⟩
      case round =>
        clear HG1 HPc2 hb3
        obtain ⟨k, hk, rfl, hg, hp, hb⟩ := hrel
        have HG := Lib.hid hg; have HP := Lib.hid hp
        clear hg hp
        by_cases hlt : k < 255
        · have hd2 : decide ((k : Int) < 255) = true := by simp; omega
          have hm : (255 - k) % 255 < 255 := Nat.mod_lt _ (by omega)
          have c1 := HP.out k hlt
          have c2 := HP.out ((255 - k) % 255) hm
          have l1 := p3_lt k hlt
          have l2 := p3_lt ((255 - k) % 255) hm
          have HN : Hid (tabS (k + 1) = (tabS k).set (p3 k) (UInt8.ofNat (stN (p3 ((255 - k) % 255))))) := Lib.hid rfl
          have HTL := Lib.hid (tabS_length k)
          have HSt := Lib.hid (fun W => stirred_any (p3 ((255 - k) % 255)) W l2)
          have hsl := stN_lt _ l2
          have e1 : IntKind.i64.wrap (255 - (k : Int)) = 255 - (k : Int) := IntWalk.i64_in _ (by omega)
          have em : (255 - (k : Int)).tmod 255 = (((255 - k) % 255 : Nat) : Int) := by rw [Int.tmod_eq_emod_of_nonneg (by omega)]; omega
          generalize (255 - k) % 255 = m at *
          generalize p3 m = y at *
          generalize p3 k = x at *
          go_wp2_with fail
          have q1 := cell_regrown c1
          have q2 := cell_regrown c2
          refine wp_region_reads_tail 13 (by kernel_rfl) (by kernel_rfl) ?_
          simp only [List.take_succ_cons, List.take_zero, List.drop_succ_cons, List.drop_zero]
          repeat (first | go_big_quiet_step ((exact Calls.regrown_of (HSt.out _))) | quiet_step ((exact Calls.regrown_of (HSt.out _))))
          refine wpQuiet_nil ?_
          intro Y hY
          have hlG := blk_lt HG.out
          have HG2 := Lib.hid (blk_below hY hlG HG.out)
          have HP2 := Lib.hid (fun j (hj : j < 255) => (hY.cell (p := ⟨g, j, none⟩) (block_lt_of_cell (HP.out j hj))).trans (HP.out j hj))
          have hb2 := hb.trans (hY.mono (by have := hb.size; omega))
          have hcx := bcell_at HG2.out x (by rw [HTL.out]; exact l1)
          have hfx := frozen_of_row Y G x _ _ HG2.out
          have hu : (stN y : Int) = ((UInt8.ofNat (stN y)).toNat : Int) := by simp; omega
          have HG3 := Lib.hid (show (Y.setCell ⟨G, x, none⟩ (.int .u8 ((stN y : Nat) : Int))).heap[G]? = some (.cells (bcells (tabS (k + 1))) 5) from by rw [HN.out, hu]; exact bheap_set HG2.out x _)
          clear hY q1 q2 c1 c2 HG HP hb hu HN
          go_wp2_with fail
          go_roundw
          case rel => exact ⟨k + 1, by omega, by go_num, HG3.out, fun j hj => by rw [World.cell?_setCell_other _ _ _ _ (by simp [hgB])]; exact HP2.out j hj, hb2.setCell (by omega) _⟩
          case measure => simp [intOf]; omega
        · have hd2 : decide ((k : Int) < 255) = false := by simp; omega
          obtain rfl : k = 255 := by omega
          go_wp2_with fail
          go_ret
          exact ⟨⟨G, rfl, by rw [HBB.out]; omega, by rw [← tab_full]; exact HG.out⟩, by rw [HBB.out]; exact hb⟩
end

section
open Go.RowKit Go.Sort
set_option maxRecDepth 100000
set_option linter.unusedSimpArgs false
set_option linter.unusedVariables false

theorem au8x (x y : UInt8) : bits .xor .u8 (x.toNat : Int) (y.toNat : Int) = ((x ^^^ y).toNat : Int) := by
  rw [u8_xor_nat _ _ (UInt8.toNat_lt x) (UInt8.toNat_lt y), UInt8.toNat_xor]
/-- Bytes at the beginning of a block. -/
def BytesAt (W : World) (g n : Nat) (l : List UInt8) : Prop := ∀ j, j < n → W.cell? ⟨g, j, none⟩ = some (.int .u8 ((l.getD j 0).toNat : Int))
theorem BytesAt.step {W W' : World} {g n : Nat} {l : List UInt8} (h : BytesAt W g n l) (hb : Below W.heap.size W W') : BytesAt W' g n l := fun j hj => (hb.cell (p := ⟨g, j, none⟩) (block_lt_of_cell (h j hj))).trans (h j hj)
theorem BytesAt.below {W W' : World} {g n B : Nat} {l : List UInt8} (h : BytesAt W g n l) (hb : Below B W W') (hg : g < B) : BytesAt W' g n l := fun j hj => (hb.cell (p := ⟨g, j, none⟩) hg).trans (h j hj)
theorem BytesAt.of_row {W : World} {g : Nat} {l : List UInt8} {T : TypeId} {fr : Nat × Nat} (h : W.heap[g]? = some (.cells (bcells l) T fr)) : BytesAt W g l.length l := fun j hj => bcell_at h j hj
theorem bytesAt_of_own {W : World} {base g cap : Nat} {l : List UInt8} (h : OwnS W base g cap (Lib.byteCells l)) : BytesAt W g l.length l := fun j hj => by
  refine h.cells j _ ?_
  simp [Lib.byteCells, List.getD_eq_getElem?_getD, hj]
/-- A slice of its own with a byte in it. -/
theorem own_bytes {W : World} {base n cap : Nat} {ao : Option Addr} {l : List UInt8} (h : Own W base (.slice ao n cap) (Lib.byteCells l)) (hl : l.length = n) (hp : 0 < n) : ∃ g, ao = some ⟨g, 0, none⟩ ∧ BytesAt W g n l := by
  obtain ⟨g, c, hv, ho, _⟩ := h.some (by rw [Lib.byteCells_length]; omega)
  injection hv with h1 _ _
  exact ⟨g, h1, by rw [← hl]; exact bytesAt_of_own ho⟩
theorem bcs_length (l : List UInt8) (n : Nat) (h : l.length = n) : (Lib.byteCells l).length = n := by rw [Lib.byteCells_length, h]
theorem bcs_snoc (l : List UInt8) (x : UInt8) : Lib.byteCells l ++ [.int .u8 (x.toNat : Int)] = Lib.byteCells (l ++ [x]) := by simp [Lib.byteCells]
/-- Bytes made one by one. -/
def genL (f : Nat → UInt8) (m : Nat) : List UInt8 := (List.range m).map f
theorem genL_length (f : Nat → UInt8) (m : Nat) : (genL f m).length = m := by simp [genL]
theorem genL_succ (f : Nat → UInt8) (m : Nat) : genL f m ++ [f m] = genL f (m + 1) := by simp [genL, List.range_succ]
theorem byte_at (s : ByteArray) (j : Nat) (h : j < s.size) : s[j] = s.data.toList.getD j 0 := by
  have h' : j < s.data.toList.length := by rw [← Lib.size_eq]; exact h
  rw [List.getD_eq_getElem?_getD, List.getElem?_eq_getElem h']
  rfl
theorem index_text (s : ByteArray) (j : Nat) (h : j < s.size) (w : World) : (Instr.index 9 (.string s) (.int .i64 (j : Int))).run Tryz.prog w = .ok (.int .u8 ((s.data.toList.getD j 0).toNat : Int)) w := by
  rw [run_index_string (P := Tryz.prog) w 9 s .i64 (j : Int) Tryz.underlying9]
  simp [h, byte_at]

set_option maxHeartbeats 1000000 in
theorem with_any (g cap : Nat) (l : List UInt8) (key : ByteArray) (w : World) (hk : key.size = 16) (hg : BytesAt w g 16 l) :
    Calls Tryz.prog 103 #[.slice (some ⟨g, 0, none⟩) 16 cap, .string key] w fun e w' => (∃ G c, e = .returned (.slice (some ⟨G, 0, none⟩) 16 c) ∧ BytesAt w' G 16 (plS l key.data.toList)) ∧ Below w.heap.size w w' := by
  obtain ⟨i0, hi, hz0, hz1, hz2⟩ := info_parts info_u8
  have HB0 := Lib.hid hg
  have HP : Hid (plS l key.data.toList = genL (fun i => l.getD i 0 ^^^ key.data.toList.getD i 0) 16) := Lib.hid rfl
  have HKS := Lib.hid hk
  have hgl : g < w.heap.size := block_lt_of_cell (hg 0 (by omega))
  clear hg hk
  go_enter Tryz.func103, Tryz.ntmps103
  go_wp2_with fail
  generalize hBB : w.heap.size = B at *
  have HBB := Lib.hid hBB
  have hszB : B ≤ w.heap.size := by omega
  clear hBB
  go_loopw [5, 6] (fun v i wr => ∃ (k : Nat) (ao : Option Addr) (cp : Nat), k ≤ 16 ∧ i = .int .i64 (k : Int) ∧ v = .slice ao k cp ∧ Own wr B (.slice ao k cp) (Lib.byteCells (genL (fun i => l.getD i 0 ^^^ key.data.toList.getD i 0) k)) ∧ Below B w wr ∧ B ≤ wr.heap.size) (fun _ i _ => 16 - (intOf i).toNat)
  case atStart => exact ⟨0, none, 0, by omega, rfl, rfl, Own.nil _ _, Below.refl _ _, hszB⟩
  case round =>
    obtain ⟨k, ao, cp, hk, rfl, rfl, hown, hb, hsz⟩ := hrel
    have HO := Lib.hid hown
    have HL := Lib.hid (bcs_length _ _ (genL_length (fun i => l.getD i 0 ^^^ key.data.toList.getD i 0) k))
    clear hown
    by_cases hlt : k < 16
    · have hd : decide ((k : Int) < 16) = true := by simp; omega
      have HN := Lib.hid (show Lib.byteCells (genL (fun i => l.getD i 0 ^^^ key.data.toList.getD i 0) k) ++ [.int .u8 ((l.getD k 0 ^^^ key.data.toList.getD k 0).toNat : Int)] = Lib.byteCells (genL (fun i => l.getD i 0 ^^^ key.data.toList.getD i 0) (k + 1)) from by rw [bcs_snoc, genL_succ])
      have c1 := (HB0.out.below hb (by omega)) k hlt
      have ix := index_text key k (by rw [HKS.out]; exact hlt)
      have HX := Lib.hid (au8x (l.getD k 0) (key.data.toList.getD k 0))
      generalize Lib.byteCells (genL (fun i => l.getD i 0 ^^^ key.data.toList.getD i 0) k) = cu at *
      generalize l.getD k 0 = x at *
      generalize key.data.toList.getD k 0 = y at *
      go_wp2_with fail
      have q1 := cell_regrown c1
      refine wp_region_moves_tail 9 _ rfl rfl rfl (by kernel_rfl) (by kernel_rfl) (fun _ _ _ _ h => h) ?_
      simp only [Nat.reduceSub, List.take_succ_cons, List.take_zero, List.drop_succ_cons, List.drop_zero]
      dsimp only [Act.put, Act.eval]
      repeat (first | go_big_quiet_step (fail) | quiet_step (fail))
      refine wpQuiet_nil ?_
      intro W4 hb4
      have HO4 := Lib.hid (HO.out.below hb4)
      have hbB : Below B w W4 := hb.trans (hb4.mono hsz)
      have hsz4 := Nat.le_trans hsz hb4.size
      clear HO hb hb4 q1 c1
      go_wp2_with (at_builtin; refine wpList_append_sl rfl (.tmp 11) (.tmp 20) 46 rfl B 5 i0 (.int .u8 0) 1 Tryz.underlying46 hi hz0 hz1 hz2 rfl ao k cp _ rfl (HO4.out.alloc _) HL.out ⟨W4.heap.size, 0, none⟩ 1 1 [.int .u8 _] rfl rfl (cell_one_new _ _ _) ?b2 ?b3 ?b4 ?b5 ?_)
      case b2 => intro u hu; simp at hu; subst hu; rfl
      case b3 => omega
      case b4 => omega
      case b5 => simp; omega
      intro ao5 cp5 W5 hown5 hgrow5
      have hb5 : Below B w W5 := below_append (hbB.alloc hsz4 _) (by simp; omega) (HO4.out.alloc _) hgrow5
      have hsz5 : B ≤ W5.heap.size := by have := hgrow5.size; simp at this; omega
      rw [HX.out, HN.out] at hown5
      clear hgrow5 HO4 hbB hsz4
      go_wp2_with fail
      go_roundw
      case rel => exact ⟨k + 1, ao5, cp5, by omega, by go_num, rfl, hown5, hb5, hsz5⟩
      case measure => simp [intOf]; omega
    · have hd : decide ((k : Int) < 16) = false := by simp; omega
      obtain rfl : k = 16 := by omega
      obtain ⟨G, rfl, hG⟩ := own_bytes HO.out (genL_length _ _) (by omega)
      rw [← HP.out] at hG
      go_wp2_with fail
      go_ret
      exact ⟨⟨G, cp, rfl, hG⟩, by rw [HBB.out]; exact hb⟩
end

section
open Go.RowKit Go.Sort
set_option maxRecDepth 100000
set_option linter.unusedSimpArgs false
set_option linter.unusedVariables false

/-- So many bytes of the round keys, one behind the other. -/
def kfl (key : List UInt8) (n : Nat) : List UInt8 := genL (fun i => (rk key (i / 16)).getD (i % 16) 0) n
theorem kfl_length (key : List UInt8) (n : Nat) : (kfl key n).length = n := genL_length _ _
theorem kfl_get (key : List UInt8) (n i : Nat) (h : i < n) : (kfl key n).getD i 0 = (rk key (i / 16)).getD (i % 16) 0 := by rw [kfl, genL, range_getD _ _ _ h]
theorem kfl_first (key : List UInt8) (h : key.length = 16) : kfl key 16 = key := bytes_ext (kfl_length _ _) h fun i hi => by
  rw [kfl_get _ _ _ hi, show i / 16 = 0 by omega, show i % 16 = i by omega]; rfl
theorem kfl_snoc (key : List UInt8) (n : Nat) : kfl key n ++ [(rk key (n / 16)).getD (n % 16) 0] = kfl key (n + 1) := genL_succ _ _
/-- Byte r of what goes into the word i. -/
def lastB (key : List UInt8) (i r : Nat) : UInt8 := nbPre (rk key (i / 4 - 1)) (pw (i / 4 - 1)) r (i % 4)
theorem rk_byte (key : List UInt8) (i r : Nat) (hi : 4 ≤ i) (hr : r < 4) : (rk key ((4 * i + r) / 16)).getD ((4 * i + r) % 16) 0 = (rk key ((4 * i - 16 + r) / 16)).getD ((4 * i - 16 + r) % 16) 0 ^^^ lastB key i r := by
  obtain ⟨m, hm⟩ : ∃ m, i / 4 = m + 1 := ⟨i / 4 - 1, by omega⟩
  rw [show (4 * i + r) / 16 = m + 1 by omega, show (4 * i + r) % 16 = 4 * (i % 4) + r by omega, show (4 * i - 16 + r) / 16 = m by omega, show (4 * i - 16 + r) % 16 = 4 * (i % 4) + r by omega, lastB, hm, Nat.add_sub_cancel, UInt8.xor_comm, nb_pre]
  rw [rk, nxL, range_getD _ _ _ (by omega), show (4 * (i % 4) + r) % 4 = r by omega, show (4 * (i % 4) + r) / 4 = i % 4 by omega]
/-- A word that is no key's first goes on from the word ahead of it. -/
theorem lastB_next (key : List UInt8) (i r : Nat) (hi : 4 ≤ i) (hr : r < 4) (hc : i % 4 ≠ 0) : lastB key i r = (rk key ((4 * i - 4 + r) / 16)).getD ((4 * i - 4 + r) % 16) 0 := by
  obtain ⟨m, hm⟩ : ∃ m, i / 4 = m + 1 := ⟨i / 4 - 1, by omega⟩
  obtain ⟨c, hc'⟩ : ∃ c, i % 4 = c + 1 := ⟨i % 4 - 1, by omega⟩
  rw [lastB, hm, hc', Nat.add_sub_cancel, show (4 * i - 4 + r) / 16 = m + 1 by omega, show (4 * i - 4 + r) % 16 = 4 * c + r by omega, rk, nxL, range_getD _ _ _ (by omega), show (4 * c + r) % 4 = r by omega, show (4 * c + r) / 4 = c by omega]
  rfl
theorem lastB_first (key : List UInt8) (i r : Nat) (hi : 4 ≤ i) (hr : r < 4) (hc : i % 4 = 0) : lastB key i r = sb ((rk key ((4 * i - 4 + (r + 1) % 4) / 16)).getD ((4 * i - 4 + (r + 1) % 4) % 16) 0) ^^^ (if r = 0 then pw ((i - 1) / 4) else 0) := by
  obtain ⟨m, hm⟩ : ∃ m, i / 4 = m + 1 := ⟨i / 4 - 1, by omega⟩
  rw [lastB, hm, hc, Nat.add_sub_cancel, show (4 * i - 4 + (r + 1) % 4) / 16 = m by omega, show (4 * i - 4 + (r + 1) % 4) % 16 = 12 + (r + 1) % 4 by omega, show (i - 1) / 4 = m by omega]
  rfl
/-- The table of bytes in memory. -/
def TabB (W : World) (S : Nat) : Prop := ∀ x : UInt8, W.cell? ⟨S, x.toNat, none⟩ = some (.int .u8 ((sb x).toNat : Int))
theorem TabB.of_row {W : World} {S : Nat} {T : TypeId} {fr : Nat × Nat} (h : W.heap[S]? = some (.cells (bcells tabL) T fr)) : TabB W S := fun x => by
  rw [bcell_at h x.toNat (by simp [tabL]; exact UInt8.toNat_lt x), tabL, range_getD _ _ _ (UInt8.toNat_lt x)]
  rfl
theorem TabB.lt {W : World} {S : Nat} (h : TabB W S) : S < W.heap.size := block_lt_of_cell (h 0)
theorem TabB.below {W W' : World} {S B : Nat} (h : TabB W S) (hb : Below B W W') (hS : S < B) : TabB W' S := fun x => (hb.cell (p := ⟨S, x.toNat, none⟩) hS).trans (h x)
theorem own_weaken {W : World} {base base' : Nat} {v : Value} {xs : List Value} (h : Own W base v xs) (hb : base' ≤ base) : Own W base' v xs := by
  rcases h with h | ⟨g, cap, hv, h⟩
  · exact .inl h
  · exact .inr ⟨g, cap, hv, Nat.le_trans hb h.base, h.le, h.cells, h.room⟩
/-- The string of a part of a row of bytes. -/
theorem run_string_at (w : World) (g off cap n : Nat) (l : List UInt8) (hl : l.length = n) (h : ∀ j x, l[j]? = some x → w.cell? ⟨g, off + j, none⟩ = some (.int .u8 x.toNat)) :
    (convert 46 9 (.slice (some ⟨g, off, none⟩) n cap)).run Tryz.prog w = .ok (.string ⟨l.toArray⟩) w := by
  subst hl
  have hld : (loadCells ⟨g, off, none⟩ l.length).run Tryz.prog w = .ok (bcells l) w := by
    have := run_loadCells_list (P := Tryz.prog) w ⟨g, off, none⟩ (Lib.byteCells l) (fun j v hv => by
      have hadd : (⟨g, off, none⟩ : Addr).add j = ⟨g, off + j, none⟩ := by unfold Addr.add; split <;> simp_all
      rw [hadd]
      simp only [Lib.byteCells, List.getElem?_map, Option.map_eq_some_iff] at hv
      obtain ⟨x, hx, rfl⟩ := hv
      exact h j x hx)
    rwa [Lib.byteCells_length] at this
  rw [run_convert_bytes_string w 46 9 5 _ _ _ Tryz.underlying46 Tryz.underlying5 Tryz.underlying9,
    run_bytesToString w ⟨g, off, none⟩ l.length cap (l.map fun b => (b.toNat : Int)) (by rw [hld]; simp [bcells, Lib.byteCells]), pushes]
  simp
theorem kfl_part (kl : List UInt8) (hk : kl.length = 16) (W : World) (g : Nat) (h : BytesAt W g 176 (kfl kl 176)) (i : Nat) (hi : i < 11) : ∀ j x, (rk kl i)[j]? = some x → W.cell? ⟨g, 16 * i + j, none⟩ = some (.int .u8 (x.toNat : Int)) := fun j x hx => by
  have hj : j < 16 := by have := (List.getElem?_eq_some_iff.1 hx).1; rwa [rk_length kl hk i] at this
  rw [h (16 * i + j) (by omega), kfl_get _ _ _ (by omega), show (16 * i + j) / 16 = i by omega, show (16 * i + j) % 16 = j by omega, List.getD_eq_getElem?_getD, hx]
  rfl
def rkW (key : List UInt8) (n : Nat) : List Value := (List.range n).map fun i => Value.string ⟨(rk key i).toArray⟩
theorem rkW_length (key : List UInt8) (n : Nat) : (rkW key n).length = n := by simp [rkW]
theorem rkW_snoc (key : List UInt8) (n : Nat) : rkW key n ++ [.string ⟨(rk key n).toArray⟩] = rkW key (n + 1) := by simp [rkW, List.range_succ]
theorem binfo_string : (Tryz.prog.info? 9).map (fun i => (i.zero, i.size, i.bytes)) = some (some (.string ⟨#[]⟩), 1, 16) := by kernel_rfl
theorem pw_tm : ∀ j, j < 10 → tm (pw j).toNat 2 = (pw (j + 1)).toNat := by decide +kernel

set_option maxHeartbeats 4000000 in
theorem refKeys_any (key : ByteArray) (S sc : Nat) (w : World) (hk : key.size = 16) (hT : TabB w S) :
    Calls Tryz.prog 71 #[.string key, .slice (some ⟨S, 0, none⟩) 256 sc] w fun e w' => (∃ ao cap, e = .returned (.slice ao 11 cap) ∧ Own w' w.heap.size (.slice ao 11 cap) ((List.range 11).map fun i => Value.string ⟨(rk key.data.toList i).toArray⟩)) ∧ Below w.heap.size w w' := by
  obtain ⟨i0, hi, hz0, hz1, hz2⟩ := info_parts info_u8
  obtain ⟨ao0, cap0, hcv, hown0, hb0⟩ := run_convert_string_bytes_own key w
  have hkl : key.data.toList.length = 16 := by rw [← Lib.size_eq]; exact hk
  rw [hk] at hcv hown0
  have hSl := hT.lt
  have HT := Lib.hid hT
  have hsz0 := hb0.size
  generalize hBB : w.heap.size = B at *
  have HBB := Lib.hid hBB
  generalize Lib.bytesWorld w 5 key = W0 at *
  have HO0 := Lib.hid hown0
  have HKF := Lib.hid (kfl_first key.data.toList hkl)
  have HKL := Lib.hid hkl
  have HB0 := Lib.hid hb0
  clear hBB hown0 hkl hk hT hb0
  generalize key.data.toList = kl at *
  go_enter Tryz.func71, Tryz.ntmps71
  go_wp2_with fail
  clear hcv
  go_loopw [5, 6, 7] (fun v cv iv wr => ∃ (i n : Nat) (ao : Option Addr) (cap : Nat), 4 ≤ i ∧ i ≤ 44 ∧ Hid (n = 4 * i) ∧ iv = .int .i64 (i : Int) ∧ cv = .int .i64 (((pw ((i - 1) / 4)).toNat : Nat) : Int) ∧ v = .slice ao n cap ∧ Own wr B (.slice ao n cap) (Lib.byteCells (kfl kl n)) ∧ Below B w wr ∧ B ≤ wr.heap.size) (fun _ _ iv _ => 44 - (intOf iv).toNat)
  case atStart => exact ⟨4, 16, ao0, cap0, by omega, by omega, Lib.hid rfl, rfl, rfl, rfl, by rw [HKF.out]; exact HO0.out, HB0.out, hsz0⟩
  case round =>
    clear HO0 HB0 hsz0
    obtain ⟨i, n, ao, cap, hi4, hi44, HN, rfl, rfl, rfl, hown, hb, hsz⟩ := hrel
    have HO := Lib.hid hown
    have HTr := Lib.hid (HT.out.below hb hSl)
    clear hown
    by_cases hlt : i < 44
    · have hd : decide ((i : Int) < 44) = true := by simp; omega
      have hn := HN.out
      have hnb : n ≤ 200 := by omega
      obtain ⟨g, rfl, hby⟩ := own_bytes HO.out (kfl_length kl n) (by omega)
      have t1 : (4 * (i : Int) - 4).toNat = 4 * i - 4 := by omega
      have t2 : (4 * (i : Int) - 3).toNat = 4 * i - 3 := by omega
      have t3 : (4 * (i : Int) - 2).toNat = 4 * i - 2 := by omega
      have t4 : (4 * (i : Int) - 1).toNat = 4 * i - 1 := by omega
      have b1 : 4 * (i : Int) - 4 < (n : Int) := by omega
      have b2 : 4 * (i : Int) - 3 < (n : Int) := by omega
      have b3 : 4 * (i : Int) - 2 < (n : Int) := by omega
      have b4 : 4 * (i : Int) - 1 < (n : Int) := by omega
      have p1 : (0 : Int) ≤ 4 * (i : Int) - 4 := by omega
      have p2 : (0 : Int) ≤ 4 * (i : Int) - 3 := by omega
      have p3 : (0 : Int) ≤ 4 * (i : Int) - 2 := by omega
      have p4 : (0 : Int) ≤ 4 * (i : Int) - 1 := by omega
      have e0 : IntKind.i64.wrap (4 * (i : Int)) = 4 * (i : Int) := IntWalk.i64_in _ (by omega)
      have e1 : IntKind.i64.wrap (4 * (i : Int) - 4) = 4 * (i : Int) - 4 := IntWalk.i64_in _ (by omega)
      have e2 : IntKind.i64.wrap (4 * (i : Int) - 3) = 4 * (i : Int) - 3 := IntWalk.i64_in _ (by omega)
      have e3 : IntKind.i64.wrap (4 * (i : Int) - 2) = 4 * (i : Int) - 2 := IntWalk.i64_in _ (by omega)
      have e4 : IntKind.i64.wrap (4 * (i : Int) - 1) = 4 * (i : Int) - 1 := IntWalk.i64_in _ (by omega)
      have c1 := hby (4 * i - 4) (by omega)
      have c2 := hby (4 * i - 3) (by omega)
      have c3 := hby (4 * i - 2) (by omega)
      have c4 := hby (4 * i - 1) (by omega)
      rw [kfl_get _ _ _ (by omega)] at c1 c2 c3 c4
      have HLB := Lib.hid (fun r (hr : r < 4) (hc : i % 4 ≠ 0) => lastB_next kl i r hi4 hr hc)
      have HLB0 := Lib.hid (fun r (hr : r < 4) (hc : i % 4 = 0) => lastB_first kl i r hi4 hr hc)
      obtain ⟨x0, hx0⟩ : ∃ x, x = (rk kl ((4 * i - 4) / 16)).getD ((4 * i - 4) % 16) 0 := ⟨_, rfl⟩
      obtain ⟨x1, hx1⟩ : ∃ x, x = (rk kl ((4 * i - 3) / 16)).getD ((4 * i - 3) % 16) 0 := ⟨_, rfl⟩
      obtain ⟨x2, hx2⟩ : ∃ x, x = (rk kl ((4 * i - 2) / 16)).getD ((4 * i - 2) % 16) 0 := ⟨_, rfl⟩
      obtain ⟨x3, hx3⟩ : ∃ x, x = (rk kl ((4 * i - 1) / 16)).getD ((4 * i - 1) % 16) 0 := ⟨_, rfl⟩
      rw [← hx0] at c1; rw [← hx1] at c2; rw [← hx2] at c3; rw [← hx3] at c4
      have HX0 := Lib.hid hx0; have HX1 := Lib.hid hx1; have HX2 := Lib.hid hx2; have HX3 := Lib.hid hx3
      have HNe0 := Lib.hid (show g < wr.heap.size from block_lt_of_cell c1)
      clear hn hby hx0 hx1 hx2 hx3
      go_wp2_with fail
      have q1 := cell_regrown c1
      have q2 := cell_regrown c2
      have q3 := cell_regrown c3
      have q4 := cell_regrown c4
      refine wp_region_reads_tail 24 (by kernel_rfl) (by kernel_rfl) ?_
      simp only [List.take_succ_cons, List.take_zero, List.drop_succ_cons, List.drop_zero]
      repeat (first | go_big_quiet_step (fail) | quiet_step (fail))
      refine wpQuiet_nil ?_
      intro Y hY
      have HOy := Lib.hid (HO.out.below hY)
      have HTy := Lib.hid (HTr.out.below hY (by omega))
      have hby := hb.trans (hY.mono hsz)
      have hszy := Nat.le_trans hsz hY.size
      have hgy := Nat.lt_of_lt_of_le HNe0.out hY.size
      clear HO HTr hb hsz hY q1 q2 q3 q4 c1 c2 c3 c4 t1 t2 t3 t4 b1 b2 b3 b4 p1 p2 p3 p4 e0 e1 e2 e3 e4 HNe0
      have HL0 := Lib.hid (show (Y.alloc (.cells #[.int .u8 (x0.toNat : Int), .int .u8 (x1.toNat : Int), .int .u8 (x2.toNat : Int), .int .u8 (x3.toNat : Int)] 5)).heap[Y.heap.size]? = some (.cells (bcells [x0, x1, x2, x3]) 5) from blk_new Y (.cells (bcells [x0, x1, x2, x3]) 5))
      by_cases hc : i % 4 = 0
      · have hcm : (i : Int).tmod 4 = 0 := by rw [Int.tmod_eq_emod_of_nonneg (by omega)]; omega
        have hpi : (i - 1) / 4 < 10 := by omega
        have HTm := Lib.hid (fun W => refTimes_any (pw ((i - 1) / 4)).toNat 2 W (UInt8.toNat_lt _) (by omega))
        rw [pw_tm _ hpi, show (i - 1) / 4 + 1 = (i + 1 - 1) / 4 by omega] at HTm
        have HV := Lib.hid (show ∀ r, r < 4 → ([sb x1 ^^^ pw ((i - 1) / 4), sb x2, sb x3, sb x0] : List UInt8).getD r 0 = lastB kl i r from fun r hr => by
          rw [HLB0.out r hr hc]
          rcases (show r = 0 ∨ r = 1 ∨ r = 2 ∨ r = 3 by omega) with rfl | rfl | rfl | rfl
          · rw [HX1.out, show 4 * i - 4 + (0 + 1) % 4 = 4 * i - 3 by omega]; rfl
          · rw [HX2.out, show 4 * i - 4 + (1 + 1) % 4 = 4 * i - 2 by omega]; simp
          · rw [HX3.out, show 4 * i - 4 + (2 + 1) % 4 = 4 * i - 1 by omega]; simp
          · rw [HX0.out, show 4 * i - 4 + (3 + 1) % 4 = 4 * i - 4 by omega]; simp)
        have d0 := bcell_at HL0.out 0 (by simp)
        have d1 := bcell_at HL0.out 1 (by simp)
        have d2 := bcell_at HL0.out 2 (by simp)
        have d3 := bcell_at HL0.out 3 (by simp)
        simp only [List.getD_cons_zero, List.getD_cons_succ] at d0 d1 d2 d3
        have HTz := Lib.hid (HTy.out.below (below_new Y (.cells #[.int .u8 (x0.toNat : Int), .int .u8 (x1.toNat : Int), .int .u8 (x2.toNat : Int), .int .u8 (x3.toNat : Int)] 5)) HTy.out.lt)
        have s0 := HTz.out x0; have s1 := HTz.out x1; have s2 := HTz.out x2; have s3 := HTz.out x3
        have l0 := UInt8.toNat_lt x0; have l1 := UInt8.toNat_lt x1; have l2 := UInt8.toNat_lt x2; have l3 := UInt8.toNat_lt x3
        have lp := UInt8.toNat_lt (pw ((i - 1) / 4))
        have HXx := Lib.hid (au8x (sb x1) (pw ((i - 1) / 4)))
        have HOz := Lib.hid (HOy.out.alloc (.cells #[.int .u8 (x0.toNat : Int), .int .u8 (x1.toNat : Int), .int .u8 (x2.toNat : Int), .int .u8 (x3.toNat : Int)] 5))
        have hbz := hby.alloc hszy (.cells #[.int .u8 (x0.toNat : Int), .int .u8 (x1.toNat : Int), .int .u8 (x2.toNat : Int), .int .u8 (x3.toNat : Int)] 5)
        have hszz : B ≤ (Y.alloc (.cells #[.int .u8 (x0.toNat : Int), .int .u8 (x1.toNat : Int), .int .u8 (x2.toNat : Int), .int .u8 (x3.toNat : Int)] 5)).heap.size := by simp; omega
        have hgz : g < (Y.alloc (.cells #[.int .u8 (x0.toNat : Int), .int .u8 (x1.toNat : Int), .int .u8 (x2.toNat : Int), .int .u8 (x3.toNat : Int)] 5)).heap.size := by simp; omega
        clear HOy HTy HTz hby hszy hgy HLB HLB0 HX0 HX1 HX2 HX3
        generalize pw ((i - 1) / 4) = pv at *
        have epv : (pv.toNat : Int) % 256 = (pv.toNat : Int) := by omega
        go_wp2_with fail
        have q0 := cell_regrown d0; have q1 := cell_regrown d1; have q2 := cell_regrown d2; have q3 := cell_regrown d3
        have r0 := cell_regrown s0; have r1 := cell_regrown s1; have r2 := cell_regrown s2; have r3 := cell_regrown s3
        refine wp_region_reads_tail 27 (by kernel_rfl) (by kernel_rfl) ?_
        simp only [List.take_succ_cons, List.take_zero, List.drop_succ_cons, List.drop_zero]
        repeat (first | go_big_quiet_step (fail) | quiet_step (fail))
        refine wpQuiet_nil ?_
        intro Z hZ
        have HLast := Lib.hid (show ∀ r, r < 4 → (Z.alloc (.cells #[.int .u8 ((sb x1 ^^^ pv).toNat : Int), .int .u8 ((sb x2).toNat : Int), .int .u8 ((sb x3).toNat : Int), .int .u8 ((sb x0).toNat : Int)] 5)).cell? ⟨Z.heap.size, r, none⟩ = some (.int .u8 ((lastB kl i r).toNat : Int)) from fun r hr => by
          rw [bcell_at (show (Z.alloc (.cells #[.int .u8 ((sb x1 ^^^ pv).toNat : Int), .int .u8 ((sb x2).toNat : Int), .int .u8 ((sb x3).toNat : Int), .int .u8 ((sb x0).toNat : Int)] 5)).heap[Z.heap.size]? = some (.cells (bcells [sb x1 ^^^ pv, sb x2, sb x3, sb x0]) 5) from blk_new Z (.cells (bcells [sb x1 ^^^ pv, sb x2, sb x3, sb x0]) 5)) r (by simpa using hr), HV.out r hr])
        have HLb := Lib.hid (show (Z.alloc (.cells #[.int .u8 ((sb x1 ^^^ pv).toNat : Int), .int .u8 ((sb x2).toNat : Int), .int .u8 ((sb x3).toNat : Int), .int .u8 ((sb x0).toNat : Int)] 5)).heap[Z.heap.size]? = some (.cells (bcells [sb x1 ^^^ pv, sb x2, sb x3, sb x0]) 5) from blk_new Z (.cells (bcells [sb x1 ^^^ pv, sb x2, sb x3, sb x0]) 5))
        have HOb := Lib.hid ((HOz.out.below hZ).alloc (.cells #[.int .u8 ((sb x1 ^^^ pv).toNat : Int), .int .u8 ((sb x2).toNat : Int), .int .u8 ((sb x3).toNat : Int), .int .u8 ((sb x0).toNat : Int)] 5))
        have hszZ := Nat.le_trans hszz hZ.size
        have hbb := (hbz.trans (hZ.mono hszz)).alloc hszZ (.cells #[.int .u8 ((sb x1 ^^^ pv).toNat : Int), .int .u8 ((sb x2).toNat : Int), .int .u8 ((sb x3).toNat : Int), .int .u8 ((sb x0).toNat : Int)] 5)
        have hszb : B ≤ (Z.alloc (.cells #[.int .u8 ((sb x1 ^^^ pv).toNat : Int), .int .u8 ((sb x2).toNat : Int), .int .u8 ((sb x3).toNat : Int), .int .u8 ((sb x0).toNat : Int)] 5)).heap.size := by simp; omega
        have hgZ := Nat.lt_of_lt_of_le hgz hZ.size
        have HNe := Lib.hid (show ∀ q, (Value.slice (some ⟨g, 0, none⟩) n cap).ownBlock = some q → q ≠ Z.heap.size from fun q hq => by simp [Value.ownBlock] at hq; omega)
        clear HOz hbz hszz hgz hZ hszZ hgZ d0 d1 d2 d3 s0 s1 s2 s3 q0 q1 q2 q3 r0 r1 r2 r3 HL0 HV
        go_wp2_with fail
        rw [HXx.out]
        refine (HTm.out _).mono ?_
        rintro e W9 ⟨rfl, rfl⟩
        clear HTm HXx
        generalize Z.heap.size = L at *
        generalize Z.alloc _ = Y2 at *
        go_wp2_with fail
        have hLY := blk_lt HLb.out
        go_loopw [5, 9] (fun v kv wr => ∃ (k m : Nat) (ao : Option Addr) (cap : Nat), k ≤ 4 ∧ Hid (m = n + k) ∧ kv = .int .i64 (k : Int) ∧ v = .slice ao m cap ∧ Own wr B (.slice ao m cap) (Lib.byteCells (kfl kl m)) ∧ Below B w wr ∧ B ≤ wr.heap.size ∧ (∀ r, r < 4 → wr.cell? ⟨L, r, none⟩ = some (.int .u8 ((lastB kl i r).toNat : Int))) ∧ (∀ q, (Value.slice ao m cap).ownBlock = some q → q ≠ L) ∧ L < wr.heap.size) (fun _ kv _ => 4 - (intOf kv).toNat)
        case atStart => exact ⟨0, n, some ⟨g, 0, none⟩, cap, by omega, Lib.hid rfl, rfl, rfl, HOb.out, hbb, hszb, HLast.out, HNe.out, hLY⟩
        case round =>
          clear HOb hbb hszb HLast HNe hLY HLb
          obtain ⟨k, m, ao, cp, hk4, HM, rfl, rfl, hown, hb, hsz, hlast, hne, hLlt⟩ := hrel
          have HO2 := Lib.hid hown
          have HL2 := Lib.hid (bcs_length _ _ (kfl_length kl m))
          have HNe := Lib.hid hne
          have HLa := Lib.hid hlast
          clear hown hne hlast
          by_cases hk : k < 4
          · have hd2 : decide ((k : Int) < 4) = true := by simp; omega
            have hnn := HN.out
            have hmm := HM.out
            obtain ⟨g2, rfl, hby⟩ := own_bytes HO2.out (kfl_length kl m) (by omega)
            have ck := hby (4 * i - 16 + k) (by omega)
            rw [kfl_get _ _ _ (by omega)] at ck
            have cl := HLa.out k hk
            have HXX := Lib.hid (au8x ((rk kl ((4 * i - 16 + k) / 16)).getD ((4 * i - 16 + k) % 16) 0) (lastB kl i k))
            rw [← rk_byte kl i k hi4 hk] at HXX
            have HNX := Lib.hid (show Lib.byteCells (kfl kl m) ++ [.int .u8 (((rk kl ((4 * i + k) / 16)).getD ((4 * i + k) % 16) 0).toNat : Int)] = Lib.byteCells (kfl kl (m + 1)) from by rw [bcs_snoc, show 4 * i + k = m by omega, kfl_snoc])
            have t5 : (4 * (i : Int) - 16 + (k : Int)).toNat = 4 * i - 16 + k := by omega
            have b5 : 4 * (i : Int) - 16 + (k : Int) < (m : Int) := by omega
            have p5 : (0 : Int) ≤ 4 * (i : Int) - 16 + (k : Int) := by omega
            have e5 : IntKind.i64.wrap (4 * (i : Int)) = 4 * (i : Int) := IntWalk.i64_in _ (by omega)
            have e6 : IntKind.i64.wrap (4 * (i : Int) - 16) = 4 * (i : Int) - 16 := IntWalk.i64_in _ (by omega)
            have e7 : IntKind.i64.wrap (4 * (i : Int) - 16 + (k : Int)) = 4 * (i : Int) - 16 + (k : Int) := IntWalk.i64_in _ (by omega)
            have hmb : m ≤ 300 := by omega
            clear hby hnn hmm
            generalize (rk kl ((4 * i + k) / 16)).getD ((4 * i + k) % 16) 0 = z at *
            generalize (rk kl ((4 * i - 16 + k) / 16)).getD ((4 * i - 16 + k) % 16) 0 = x at *
            generalize lastB kl i k = y at *
            generalize Lib.byteCells (kfl kl m) = cu at *
            go_wp2_with fail
            have q1 := cell_regrown ck
            have q2 := cell_regrown cl
            refine wp_region_moves_tail 14 _ rfl rfl rfl (by kernel_rfl) (by kernel_rfl) (fun _ _ _ _ h => h) ?_
            simp only [Nat.reduceSub, List.take_succ_cons, List.take_zero, List.drop_succ_cons, List.drop_zero]
            dsimp only [Act.put, Act.eval]
            repeat (first | go_big_quiet_step (fail) | quiet_step (fail))
            refine wpQuiet_nil ?_
            intro W4 hb4
            have HO4 := Lib.hid (HO2.out.below hb4)
            have hbB : Below B w W4 := hb.trans (hb4.mono hsz)
            have hsz4 := Nat.le_trans hsz hb4.size
            have HL4 := Lib.hid (fun r hr => (hb4.cell (p := ⟨L, r, none⟩) hLlt).trans (HLa.out r hr))
            have hLlt4 := Nat.lt_of_lt_of_le hLlt hb4.size
            clear HO2 hb hb4 q1 q2 ck cl HLa hLlt
            go_wp2_with (at_builtin; refine wpList_append_slF rfl (.tmp 80) (.tmp 94) 46 rfl B 5 i0 (.int .u8 0) 1 Tryz.underlying46 hi hz0 hz1 hz2 rfl (some ⟨g2, 0, none⟩) m cp _ rfl (HO4.out.alloc _) HL2.out ⟨W4.heap.size, 0, none⟩ 1 1 [.int .u8 _] rfl rfl (cell_one_new _ _ _) ?d2 ?d3 ?d4 ?d5 ?_)
            case d2 => intro u hu; simp at hu; subst hu; rfl
            case d3 => omega
            case d4 => omega
            case d5 => simp; omega
            intro ao5 cp5 W5 hown5 hgrow5 hfar
            have hb5 : Below B w W5 := below_append (hbB.alloc hsz4 _) (by simp; omega) (HO4.out.alloc _) hgrow5
            have hsz5 : B ≤ W5.heap.size := by have := hgrow5.size; simp at this; omega
            rw [HXX.out, HNX.out] at hown5
            have HO5 := Lib.hid hown5
            have hg2L := HNe.out g2 rfl
            have HL5 := Lib.hid (fun r (hr : r < 4) => show W5.cell? ⟨L, r, none⟩ = some (.int .u8 ((lastB kl i r).toNat : Int)) from by
              rw [World.cell?_of_block (a := ⟨L, r, none⟩) (hgrow5.block L (by simp; omega) (by simp [Value.ownBlock]; omega))]
              exact ((below_new W4 _).cell (p := ⟨L, r, none⟩) hLlt4).trans (HL4.out r hr))
            have HNe5 := Lib.hid (show ∀ q, (Value.slice ao5 (m + 1) cp5).ownBlock = some q → q ≠ L from fun q hq => by
              rcases hfar q hq with h | h
              · simp [Value.ownBlock] at h; omega
              · first | omega | (simp at h; omega))
            have hL5 : L < W5.heap.size := by have := hgrow5.size; simp at this; omega
            clear hgrow5 HO4 hbB hsz4 HL4 hLlt4 hown5 hfar HNe hg2L
            go_wp2_with fail
            go_roundw
            case rel => exact ⟨k + 1, m + 1, ao5, cp5, by omega, Lib.hid (by have := HM.out; omega), by go_num, rfl, HO5.out, hb5, hsz5, HL5.out, HNe5.out, hL5⟩
            case measure => simp [intOf]; omega
          · have hd2 : decide ((k : Int) < 4) = false := by simp; omega
            obtain rfl : k = 4 := by omega
            go_wp2_with fail
            go_roundw
            case rel => exact ⟨i + 1, m, ao, cp, by omega, by omega, Lib.hid (by have := HM.out; have := HN.out; omega), by go_num, rfl, rfl, HO2.out, hb, hsz⟩
            case measure => simp [intOf]; omega
      · have hcm : (((i : Int) % 4) == 0) = false := by simp; omega
        have HV := Lib.hid (show ∀ r, r < 4 → ([x0, x1, x2, x3] : List UInt8).getD r 0 = lastB kl i r from fun r hr => by
          rw [HLB.out r hr hc]
          rcases (show r = 0 ∨ r = 1 ∨ r = 2 ∨ r = 3 by omega) with rfl | rfl | rfl | rfl
          · rw [HX0.out]; simp
          · rw [HX1.out, show 4 * i - 4 + 1 = 4 * i - 3 by omega]; simp
          · rw [HX2.out, show 4 * i - 4 + 2 = 4 * i - 2 by omega]; simp
          · rw [HX3.out, show 4 * i - 4 + 3 = 4 * i - 1 by omega]; simp)
        have HLast := Lib.hid (show ∀ r, r < 4 → (Y.alloc (.cells #[.int .u8 (x0.toNat : Int), .int .u8 (x1.toNat : Int), .int .u8 (x2.toNat : Int), .int .u8 (x3.toNat : Int)] 5)).cell? ⟨Y.heap.size, r, none⟩ = some (.int .u8 ((lastB kl i r).toNat : Int)) from fun r hr => by
          rw [bcell_at HL0.out r (by simpa using hr), HV.out r hr])
        have HOb := Lib.hid (HOy.out.alloc (.cells #[.int .u8 (x0.toNat : Int), .int .u8 (x1.toNat : Int), .int .u8 (x2.toNat : Int), .int .u8 (x3.toNat : Int)] 5))
        have hbb := hby.alloc hszy (.cells #[.int .u8 (x0.toNat : Int), .int .u8 (x1.toNat : Int), .int .u8 (x2.toNat : Int), .int .u8 (x3.toNat : Int)] 5)
        have hszb : B ≤ (Y.alloc (.cells #[.int .u8 (x0.toNat : Int), .int .u8 (x1.toNat : Int), .int .u8 (x2.toNat : Int), .int .u8 (x3.toNat : Int)] 5)).heap.size := by simp; omega
        have HNe := Lib.hid (show ∀ q, (Value.slice (some ⟨g, 0, none⟩) n cap).ownBlock = some q → q ≠ Y.heap.size from fun q hq => by simp [Value.ownBlock] at hq; omega)
        have HLb := HL0
        clear HOy HTy hby hszy hgy HLB HLB0 HX0 HX1 HX2 HX3 HL0 HV
        go_wp2_with fail
        generalize Y.heap.size = L at *
        generalize Y.alloc _ = Y2 at *
        have hLY := blk_lt HLb.out
        go_loopw [5, 9] (fun v kv wr => ∃ (k m : Nat) (ao : Option Addr) (cap : Nat), k ≤ 4 ∧ Hid (m = n + k) ∧ kv = .int .i64 (k : Int) ∧ v = .slice ao m cap ∧ Own wr B (.slice ao m cap) (Lib.byteCells (kfl kl m)) ∧ Below B w wr ∧ B ≤ wr.heap.size ∧ (∀ r, r < 4 → wr.cell? ⟨L, r, none⟩ = some (.int .u8 ((lastB kl i r).toNat : Int))) ∧ (∀ q, (Value.slice ao m cap).ownBlock = some q → q ≠ L) ∧ L < wr.heap.size) (fun _ kv _ => 4 - (intOf kv).toNat)
        case atStart => exact ⟨0, n, some ⟨g, 0, none⟩, cap, by omega, Lib.hid rfl, rfl, rfl, HOb.out, hbb, hszb, HLast.out, HNe.out, hLY⟩
        case round =>
          clear HOb hbb hszb HLast HNe hLY HLb
          obtain ⟨k, m, ao, cp, hk4, HM, rfl, rfl, hown, hb, hsz, hlast, hne, hLlt⟩ := hrel
          have HO2 := Lib.hid hown
          have HL2 := Lib.hid (bcs_length _ _ (kfl_length kl m))
          have HNe := Lib.hid hne
          have HLa := Lib.hid hlast
          clear hown hne hlast
          by_cases hk : k < 4
          · have hd2 : decide ((k : Int) < 4) = true := by simp; omega
            have hnn := HN.out
            have hmm := HM.out
            obtain ⟨g2, rfl, hby⟩ := own_bytes HO2.out (kfl_length kl m) (by omega)
            have ck := hby (4 * i - 16 + k) (by omega)
            rw [kfl_get _ _ _ (by omega)] at ck
            have cl := HLa.out k hk
            have HXX := Lib.hid (au8x ((rk kl ((4 * i - 16 + k) / 16)).getD ((4 * i - 16 + k) % 16) 0) (lastB kl i k))
            rw [← rk_byte kl i k hi4 hk] at HXX
            have HNX := Lib.hid (show Lib.byteCells (kfl kl m) ++ [.int .u8 (((rk kl ((4 * i + k) / 16)).getD ((4 * i + k) % 16) 0).toNat : Int)] = Lib.byteCells (kfl kl (m + 1)) from by rw [bcs_snoc, show 4 * i + k = m by omega, kfl_snoc])
            have t5 : (4 * (i : Int) - 16 + (k : Int)).toNat = 4 * i - 16 + k := by omega
            have b5 : 4 * (i : Int) - 16 + (k : Int) < (m : Int) := by omega
            have p5 : (0 : Int) ≤ 4 * (i : Int) - 16 + (k : Int) := by omega
            have e5 : IntKind.i64.wrap (4 * (i : Int)) = 4 * (i : Int) := IntWalk.i64_in _ (by omega)
            have e6 : IntKind.i64.wrap (4 * (i : Int) - 16) = 4 * (i : Int) - 16 := IntWalk.i64_in _ (by omega)
            have e7 : IntKind.i64.wrap (4 * (i : Int) - 16 + (k : Int)) = 4 * (i : Int) - 16 + (k : Int) := IntWalk.i64_in _ (by omega)
            have hmb : m ≤ 300 := by omega
            clear hby hnn hmm
            generalize (rk kl ((4 * i + k) / 16)).getD ((4 * i + k) % 16) 0 = z at *
            generalize (rk kl ((4 * i - 16 + k) / 16)).getD ((4 * i - 16 + k) % 16) 0 = x at *
            generalize lastB kl i k = y at *
            generalize Lib.byteCells (kfl kl m) = cu at *
            go_wp2_with fail
            have q1 := cell_regrown ck
            have q2 := cell_regrown cl
            refine wp_region_moves_tail 14 _ rfl rfl rfl (by kernel_rfl) (by kernel_rfl) (fun _ _ _ _ h => h) ?_
            simp only [Nat.reduceSub, List.take_succ_cons, List.take_zero, List.drop_succ_cons, List.drop_zero]
            dsimp only [Act.put, Act.eval]
            repeat (first | go_big_quiet_step (fail) | quiet_step (fail))
            refine wpQuiet_nil ?_
            intro W4 hb4
            have HO4 := Lib.hid (HO2.out.below hb4)
            have hbB : Below B w W4 := hb.trans (hb4.mono hsz)
            have hsz4 := Nat.le_trans hsz hb4.size
            have HL4 := Lib.hid (fun r hr => (hb4.cell (p := ⟨L, r, none⟩) hLlt).trans (HLa.out r hr))
            have hLlt4 := Nat.lt_of_lt_of_le hLlt hb4.size
            clear HO2 hb hb4 q1 q2 ck cl HLa hLlt
            go_wp2_with (at_builtin; refine wpList_append_slF rfl (.tmp 80) (.tmp 94) 46 rfl B 5 i0 (.int .u8 0) 1 Tryz.underlying46 hi hz0 hz1 hz2 rfl (some ⟨g2, 0, none⟩) m cp _ rfl (HO4.out.alloc _) HL2.out ⟨W4.heap.size, 0, none⟩ 1 1 [.int .u8 _] rfl rfl (cell_one_new _ _ _) ?d2 ?d3 ?d4 ?d5 ?_)
            case d2 => intro u hu; simp at hu; subst hu; rfl
            case d3 => omega
            case d4 => omega
            case d5 => simp; omega
            intro ao5 cp5 W5 hown5 hgrow5 hfar
            have hb5 : Below B w W5 := below_append (hbB.alloc hsz4 _) (by simp; omega) (HO4.out.alloc _) hgrow5
            have hsz5 : B ≤ W5.heap.size := by have := hgrow5.size; simp at this; omega
            rw [HXX.out, HNX.out] at hown5
            have HO5 := Lib.hid hown5
            have hg2L := HNe.out g2 rfl
            have HL5 := Lib.hid (fun r (hr : r < 4) => show W5.cell? ⟨L, r, none⟩ = some (.int .u8 ((lastB kl i r).toNat : Int)) from by
              rw [World.cell?_of_block (a := ⟨L, r, none⟩) (hgrow5.block L (by simp; omega) (by simp [Value.ownBlock]; omega))]
              exact ((below_new W4 _).cell (p := ⟨L, r, none⟩) hLlt4).trans (HL4.out r hr))
            have HNe5 := Lib.hid (show ∀ q, (Value.slice ao5 (m + 1) cp5).ownBlock = some q → q ≠ L from fun q hq => by
              rcases hfar q hq with h | h
              · simp [Value.ownBlock] at h; omega
              · first | omega | (simp at h; omega))
            have hL5 : L < W5.heap.size := by have := hgrow5.size; simp at this; omega
            clear hgrow5 HO4 hbB hsz4 HL4 hLlt4 hown5 hfar HNe hg2L
            go_wp2_with fail
            go_roundw
            case rel => exact ⟨k + 1, m + 1, ao5, cp5, by omega, Lib.hid (by have := HM.out; omega), by go_num, rfl, HO5.out, hb5, hsz5, HL5.out, HNe5.out, hL5⟩
            case measure => simp [intOf]; omega
          · have hd2 : decide ((k : Int) < 4) = false := by simp; omega
            obtain rfl : k = 4 := by omega
            go_wp2_with fail
            go_roundw
            case rel => exact ⟨i + 1, m, ao, cp, by omega, by omega, Lib.hid (by have := HM.out; have := HN.out; omega), by go_num, by rw [show (i + 1 - 1) / 4 = (i - 1) / 4 by omega], rfl, HO2.out, hb, hsz⟩
            case measure => simp [intOf]; omega
    · have hd : decide ((i : Int) < 44) = false := by simp; omega
      obtain rfl : i = 44 := by omega
      obtain rfl : n = 176 := by have := HN.out; omega
      obtain ⟨g, rfl, hby⟩ := own_bytes HO.out (kfl_length kl 176) (by omega)
      have hgF : g < wr.heap.size := block_lt_of_cell (hby 0 (by omega))
      obtain ⟨s0, hs, hs0, hs1, hs2⟩ := info_parts binfo_string
      have hB0 : Hid (wr.heap.size = wr.heap.size) := Lib.hid rfl
      obtain ⟨F, hF⟩ : ∃ F, wr.heap.size = F := ⟨_, rfl⟩
      have hszF : B ≤ F := by omega
      have HBY := Lib.hid hby
      have hgF' : g < F := by omega
      have hFw : F ≤ wr.heap.size := by omega
      have hown0 := Own.nil wr F
      have hcap : 176 ≤ cap := by
        rcases HO.out with ⟨h, _⟩ | ⟨g', c', h, hh⟩
        · cases h
        · injection h with _ h2 h3
          have := hh.le
          rw [Lib.byteCells_length, kfl_length] at this
          omega
      have hbF : Below F wr wr := Below.refl _ _
      clear HO HTr hby hB0 hgF hF
      go_wp2_with fail
      go_loopw [10, 11] (fun v iv wt => ∃ (k : Nat) (ao : Option Addr) (cp : Nat), k ≤ 11 ∧ iv = .int .i64 (k : Int) ∧ v = .slice ao k cp ∧ Own wt F (.slice ao k cp) (rkW kl k) ∧ Below F wr wt ∧ F ≤ wt.heap.size) (fun _ iv _ => 11 - (intOf iv).toNat)
      case atStart => exact ⟨0, none, 0, by omega, rfl, rfl, hown0, hbF, hFw⟩
      case round =>
        clear hown0 hbF
        obtain ⟨k, ao, cp, hk, rfl, rfl, hown, hbt, hszt⟩ := hrel
        have HOk := Lib.hid hown
        have HLk := Lib.hid (rkW_length kl k)
        clear hown
        by_cases hlt2 : k < 11
        · have hd2 : decide ((k : Int) < 11) = true := by simp; omega
          have hBk : BytesAt wr g 176 (kfl kl 176) := HBY.out.below hbt hgF'
          have hcv := run_string_at wr g (16 * k) (cap - 16 * k) 16 (rk kl k) (rk_length kl HKL.out k) (kfl_part kl HKL.out wr g hBk k hlt2)
          have HNk := Lib.hid (rkW_snoc kl k)
          have u1 : (16 * (k : Int)).toNat = 16 * k := by omega
          have u2 : (16 * (k : Int) + 16).toNat = 16 * k + 16 := by omega
          have f1 : IntKind.i64.wrap (16 * (k : Int)) = 16 * (k : Int) := IntWalk.i64_in _ (by omega)
          have f2 : IntKind.i64.wrap (16 * (k : Int) + 16) = 16 * (k : Int) + 16 := IntWalk.i64_in _ (by omega)
          have g1 : (0 : Int) ≤ 16 * (k : Int) := by omega
          have g2 : 16 * (k : Int) ≤ 16 * (k : Int) + 16 := by omega
          have g3 : 16 * (k : Int) + 16 ≤ (cap : Int) := by omega
          clear hBk
          generalize (⟨(rk kl k).toArray⟩ : ByteArray) = t at *
          go_wp2_with (at_builtin; refine wpList_append_sl rfl (.tmp 100) (.tmp 109) 33 rfl F 9 s0 (.string ⟨#[]⟩) 16 Tryz.underlying33 hs hs0 hs1 hs2 rfl ao k cp _ rfl (HOk.out.alloc _) HLk.out ⟨wr.heap.size, 0, none⟩ 1 1 [.string t] rfl rfl (cell_one_new _ _ _) ?b2 ?b3 ?b4 ?b5 ?_)
          case b2 => intro u hu; simp at hu; subst hu; rfl
          case b3 => omega
          case b4 => omega
          case b5 => simp; omega
          intro ao5 cp5 W5 hown5 hgrow5
          have hb5 : Below F _ W5 := below_append (hbt.alloc hszt _) (by simp; omega) (HOk.out.alloc _) hgrow5
          have hsz5 : F ≤ W5.heap.size := by have := hgrow5.size; simp at this; omega
          rw [HNk.out] at hown5
          clear hgrow5 HOk hbt
          go_wp2_with fail
          go_roundw
          case rel => exact ⟨k + 1, ao5, cp5, by omega, by go_num, rfl, hown5, hb5, hsz5⟩
          case measure => simp [intOf]; omega
        · have hd2 : decide ((k : Int) < 11) = false := by simp; omega
          obtain rfl : k = 11 := by omega
          go_wp2_with fail
          go_ret
          exact ⟨⟨ao, cp, rfl, own_weaken HOk.out hszF⟩, hb.trans (hbt.mono hszF)⟩
end

section
open Go.RowKit Go.Sort
set_option maxRecDepth 100000
set_option linter.unusedSimpArgs false
set_option linter.unusedVariables false

/-- The state behind so many of the rounds. -/
def stR (key blk : List UInt8) (m : Nat) : List UInt8 := if m < 10 then roS key blk m else enL key blk
theorem stR_length (key blk : List UInt8) (m : Nat) : (stR key blk m).length = 16 := by
  unfold stR
  split
  · exact roS_length _ _ _
  · exact enL_length _ _
/-- The bytes swapped and shifted, the reference's way. -/
def ssF (s : List UInt8) (i : Nat) : UInt8 := sb (s.getD ((i + 4 * (i % 4)) % 16) 0)
theorem ss_eq (s : List UInt8) (h : s.length = 16) : genL (ssF s) 16 = shS (swS s) := bytes_ext (genL_length _ _) (shS_length _) fun i hi => by
  rw [genL, range_getD _ _ _ hi, shS, range_getD _ _ _ hi, ssF, swS_getD _ _ (by rw [h]; exact Nat.mod_lt _ (by omega))]
def mxF (t : List UInt8) (i : Nat) : UInt8 := mxB (t.getD (i / 4 * 4 + i % 4) 0) (t.getD (i / 4 * 4 + (i % 4 + 1) % 4) 0) (t.getD (i / 4 * 4 + (i % 4 + 2) % 4) 0) (t.getD (i / 4 * 4 + (i % 4 + 3) % 4) 0)
theorem mx_eq (t : List UInt8) : genL (mxF t) 16 = mxS t := rfl
theorem stR_mid (key blk : List UInt8) (m : Nat) (h : m + 1 < 10) : plS (mxS (shS (swS (stR key blk m)))) (rk key (m + 1)) = stR key blk (m + 1) := by
  rw [stR, if_pos (by omega), stR, if_pos h]; rfl
theorem stR_end (key blk : List UInt8) : plS (shS (swS (stR key blk 9))) (rk key (9 + 1)) = stR key blk (9 + 1) := by
  rw [stR, if_pos (by omega), stR, if_neg (by omega)]; rfl
/-- What the reference adds up for a byte of a column. -/
theorem mix_ref (a b c d : UInt8) : ((mxB a b c d).toNat : Int) = bits .xor .i64 (bits .xor .i64 (bits .xor .i64 ((tm a.toNat 2 : Nat) : Int) ((tm b.toNat 3 : Nat) : Int)) (c.toNat : Int)) (d.toNat : Int) % 256 := by
  have ha := UInt8.toNat_lt a; have hb := UInt8.toNat_lt b; have hc := UInt8.toNat_lt c; have hd := UInt8.toNat_lt d
  have h1 := tm_lt a.toNat 2 ha
  have h2 := tm_lt b.toNat 3 hb
  have h3 := xor_lt8 h1 h2
  have h4 := xor_lt8 h3 hc
  have h5 := xor_lt8 h4 hd
  rw [ax_xor _ _ (by omega) (by omega), ax_xor _ _ (by omega) (by omega), ax_xor _ _ (by omega) (by omega)]
  rw [mxB_toNat, tm2 _ ha, tm3 _ hb]
  have hlin : dbl1 (a.toNat ^^^ b.toNat) = dbl1 a.toNat ^^^ dbl1 b.toNat := dbl_lin _ _ ha hb
  rw [hlin]
  rw [tm2 _ ha, tm3 _ hb] at h5
  rw [← Nat.xor_assoc (dbl1 a.toNat)] at *
  omega
theorem refTimesB (a b : Nat) (w : World) (ha : a < 256) (hb : b < 256) :
    Calls Tryz.prog 101 #[.int .i64 (a : Int), .int .i64 (b : Int)] w fun e w' => e = .returned (.int .i64 ((tm a b : Nat) : Int)) ∧ Below w.heap.size w w' :=
  (refTimes_any a b w ha hb).mono fun e w' ⟨h, hw⟩ => ⟨h, hw ▸ Below.refl _ _⟩
/-- The slice of the round keys. -/
def KeysAt (W : World) (K : Nat) (key : List UInt8) : Prop := ∀ j, j < 11 → W.cell? ⟨K, j, none⟩ = some (.string ⟨(rk key j).toArray⟩)
theorem KeysAt.below {W W' : World} {K B : Nat} {key : List UInt8} (h : KeysAt W K key) (hb : Below B W W') (hK : K < B) : KeysAt W' K key := fun j hj => (hb.cell (p := ⟨K, j, none⟩) hK).trans (h j hj)
theorem KeysAt.lt {W : World} {K : Nat} {key : List UInt8} (h : KeysAt W K key) : K < W.heap.size := block_lt_of_cell (h 0 (by omega))
theorem arr_size (l : List UInt8) : (⟨l.toArray⟩ : ByteArray).size = l.length := rfl

def sheetC (K kc S sc : Nat) : Array Value := #[.slice (some ⟨K, 0, none⟩) 11 kc, .slice (some ⟨S, 0, none⟩) 256 sc]
theorem sheet_cells {W : World} {B K kc S sc : Nat} (h : W.heap[B]? = some (.cells (sheetC K kc S sc) 74)) : W.cell? ⟨B, 0, none⟩ = some (.slice (some ⟨K, 0, none⟩) 11 kc) ∧ W.cell? ⟨B, 1, none⟩ = some (.slice (some ⟨S, 0, none⟩) 256 sc) := by
  rw [cell_of_row _ _ _ _ _ _ h, cell_of_row _ _ _ _ _ _ h]; exact ⟨rfl, rfl⟩

set_option maxHeartbeats 2000000 in
theorem under_any (key : List UInt8) (block : ByteArray) (K kc S sc : Nat) (w : World) (hk : key.length = 16) (hs : block.size = 16) (hK : KeysAt w K key) (hT : TabB w S) :
    Calls Tryz.prog 72 #[.agg #[.slice (some ⟨K, 0, none⟩) 11 kc, .slice (some ⟨S, 0, none⟩) 256 sc], .string block] w fun e w' => e = .returned (.string ⟨(enL key block.data.toList).toArray⟩) ∧ Below w.heap.size w w' := by
  obtain ⟨i0, hi, hz0, hz1, hz2⟩ := info_parts info_u8
  have hX0 := blk_new w (.cells #[.slice (some ⟨K, 0, none⟩) 11 kc, .slice (some ⟨S, 0, none⟩) 256 sc] 74)
  have hbX := below_new w (.cells #[.slice (some ⟨K, 0, none⟩) 11 kc, .slice (some ⟨S, 0, none⟩) 256 sc] 74)
  have hKl := hK.lt; have hTl := hT.lt
  have HK0 := Lib.hid hK; have HT0 := Lib.hid hT
  have hKX := hK.below hbX hKl; have hTX := hT.below hbX hTl
  have hbl : block.data.toList.length = 16 := by rw [← Lib.size_eq]; exact hs
  have hXs : (w.alloc (.cells #[.slice (some ⟨K, 0, none⟩) 11 kc, .slice (some ⟨S, 0, none⟩) 256 sc] 74)).heap.size = w.heap.size + 1 := by simp
  obtain ⟨ao0, cap0, hcv, hown0, hb0⟩ := run_convert_string_bytes_own block (w.alloc (.cells #[.slice (some ⟨K, 0, none⟩) 11 kc, .slice (some ⟨S, 0, none⟩) 256 sc] 74))
  rw [hs] at hcv hown0
  rw [hXs] at hb0 hown0
  have hX1 := blk_below hb0 (by omega) hX0
  have hb1 := hbX.trans (hb0.mono (by omega))
  have hK1 := hKX.below hb0 (by omega)
  have hT1 := hTX.below hb0 (by omega)
  have hsz1 := hb0.size
  rw [hXs] at hsz1
  have hX2 : (Lib.bytesWorld (w.alloc (.cells #[.slice (some ⟨K, 0, none⟩) 11 kc, .slice (some ⟨S, 0, none⟩) 256 sc] 74)) 5 block).heap[w.heap.size]? = some (.cells (sheetC K kc S sc) 74) := hX1
  have hx0 := (sheet_cells hX2).1
  have hk0 := hK1 0 (by omega)
  have hg0 : ∃ g, ao0 = some ⟨g, 0, none⟩ ∧ BytesAt (Lib.bytesWorld (w.alloc (.cells #[.slice (some ⟨K, 0, none⟩) 11 kc, .slice (some ⟨S, 0, none⟩) 256 sc] 74)) 5 block) g 16 block.data.toList := own_bytes hown0 hbl (by omega)
  obtain ⟨g, rfl, hby⟩ := hg0
  have HWi := Lib.hid (fun W (h : BytesAt W g 16 block.data.toList) => with_any g cap0 block.data.toList ⟨key.toArray⟩ W (by rw [arr_size]; exact hk) h)
  rw [show (⟨(rk key 0).toArray⟩ : ByteArray) = ⟨key.toArray⟩ from rfl] at hk0
  generalize Lib.bytesWorld _ 5 block = W0 at *
  have HX1 := Lib.hid hX2; have HK1 := Lib.hid hK1; have HT1 := Lib.hid hT1
  have HBY := Lib.hid hby
  clear hX0 hbX hKX hTX hXs hX1 hX2 hK1 hT1 hb0 hown0 hK hT hs hby
  go_enter Tryz.func72, Tryz.ntmps72
  go_wp2_with fail
  generalize hBB : w.heap.size = B at *
  have HBB := Lib.hid hBB
  clear hBB
  refine (HWi.out _ HBY.out).mono ?_
  rintro e W2 ⟨⟨G, gc, rfl, hG⟩, hb2⟩
  have hG' : BytesAt W2 G 16 (stR key block.data.toList 0) := by rw [stR, if_pos (by omega)]; exact hG
  have HG := Lib.hid hG'
  have hbw := hb1.trans (hb2.mono (by omega))
  have HX2 := Lib.hid (blk_below hb2 (by omega) HX1.out)
  have hBw : B < W2.heap.size := Nat.lt_of_lt_of_le (by omega) hb2.size
  have HKL := Lib.hid hk
  clear hG hG' hb1 hb2 HX1 HK1 HT1 HBY HWi hcv hsz1 hx0 hk0 hk
  generalize hblk : block.data.toList = blk at *
  have HBLK := Lib.hid hblk
  clear hblk
  go_wp2_with fail
  go_loopw [5, 6] (fun sv nv wr => ∃ (n G gc : Nat), 1 ≤ n ∧ n ≤ 11 ∧ nv = .int .i64 (n : Int) ∧ sv = .slice (some ⟨G, 0, none⟩) 16 gc ∧ BytesAt wr G 16 (stR key blk (n - 1)) ∧ Below B w wr ∧ wr.heap[B]? = some (.cells (sheetC K kc S sc) 74) ∧ B < wr.heap.size) (fun _ nv _ => 11 - (intOf nv).toNat)
  case atStart => exact ⟨1, G, gc, by omega, by omega, rfl, rfl, HG.out, hbw, HX2.out, hBw⟩
  case round =>
    clear HG hbw HX2 hBw
    obtain ⟨n, G, gc, hn1, hn11, rfl, rfl, hG, hb, hX, hBr⟩ := hrel
    by_cases hlt : n ≤ 10
    · have hd : decide ((n : Int) ≤ 10) = true := by simp; omega
      have HSL := Lib.hid (stR_length key blk (n - 1))
      have HG := Lib.hid hG; have HX := Lib.hid hX; have HB := Lib.hid hb
      have hBr0 := hBr
      have HMid := Lib.hid (fun (h : n < 10) => show plS (mxS (shS (swS (stR key blk (n - 1))))) (rk key n) = stR key blk n from by
        have := stR_mid key blk (n - 1) (by omega)
        rwa [show n - 1 + 1 = n by omega] at this)
      have HEnd := Lib.hid (fun (h : n = 10) => show plS (shS (swS (stR key blk (n - 1)))) (rk key n) = stR key blk n from by
        subst h; exact stR_end key blk)
      clear hG hX
      generalize stR key blk (n - 1) = sl at *
      obtain ⟨F, hF⟩ : ∃ F, wr.heap.size = F := ⟨_, rfl⟩
      have hFw : F ≤ wr.heap.size := by omega
      have hBF : B < F := by omega
      have hGF : G < F := by rw [← hF]; exact block_lt_of_cell (HG.out 0 (by omega))
      have hown0 := Own.nil wr F
      have hbF : Below F wr wr := Below.refl _ _
      have hbb : Below B w wr := hb
      go_wp2_with fail
      go_loopw [7, 8] (fun tv iv wt => ∃ (k : Nat) (ao : Option Addr) (cp : Nat), k ≤ 16 ∧ iv = .int .i64 (k : Int) ∧ tv = .slice ao k cp ∧ Own wt F (.slice ao k cp) (Lib.byteCells (genL (ssF sl) k)) ∧ Below F wr wt ∧ F ≤ wt.heap.size) (fun _ iv _ => 16 - (intOf iv).toNat)
      case atStart => exact ⟨0, none, 0, by omega, rfl, rfl, hown0, hbF, hFw⟩
      case round =>
        clear hown0 hbF
        obtain ⟨k, ao, cp, hk, rfl, rfl, hown, hbt, hszt⟩ := hrel
        have HO := Lib.hid hown
        have HLo := Lib.hid (bcs_length _ _ (genL_length (ssF sl) k))
        have hbz : Below B w wr := hbb.trans (hbt.mono (by omega))
        have HXz := Lib.hid (blk_below hbt hBF HX.out)
        clear hown
        by_cases hlk : k < 16
        · have hd2 : decide ((k : Int) < 16) = true := by simp; omega
          have hsw := (sheet_cells HXz.out).2
          have hm16 : (k + 4 * (k % 4)) % 16 < 16 := Nat.mod_lt _ (by omega)
          have cs := (HG.out.below hbt hGF) ((k + 4 * (k % 4)) % 16) hm16
          have ct := (HT0.out.below hbz hTl) (sl.getD ((k + 4 * (k % 4)) % 16) 0)
          have lx := UInt8.toNat_lt (sl.getD ((k + 4 * (k % 4)) % 16) 0)
          have HNk := Lib.hid (show Lib.byteCells (genL (ssF sl) k) ++ [.int .u8 ((sb (sl.getD ((k + 4 * (k % 4)) % 16) 0)).toNat : Int)] = Lib.byteCells (genL (ssF sl) (k + 1)) from by rw [bcs_snoc, ← genL_succ]; rfl)
          have hme : (((k + 4 * (k % 4)) % 16 : Nat) : Int) = ((k : Int) + 4 * ((k : Int) % 4)) % 16 := by omega
          have e1 : IntKind.i64.wrap (4 * ((k : Int) % 4)) = 4 * ((k : Int) % 4) := IntWalk.i64_in _ (by omega)
          have e2 : IntKind.i64.wrap ((k : Int) + 4 * ((k : Int) % 4)) = (k : Int) + 4 * ((k : Int) % 4) := IntWalk.i64_in _ (by omega)
          have tt1 : (k : Int).tmod 4 = (k : Int) % 4 := Int.tmod_eq_emod_of_nonneg (by omega)
          have tt2 : ((k : Int) + 4 * ((k : Int) % 4)).tmod 16 = (((k + 4 * (k % 4)) % 16 : Nat) : Int) := by rw [Int.tmod_eq_emod_of_nonneg (by omega), hme]
          have tt3 : ((k : Int) + 4 * ((k : Int) % 4)) % 16 = (((k + 4 * (k % 4)) % 16 : Nat) : Int) := hme.symm
          clear hme
          generalize (k + 4 * (k % 4)) % 16 = mi at *
          generalize sl.getD mi 0 = x at *
          generalize Lib.byteCells (genL (ssF sl) k) = cu at *
          go_wp2_with fail
          have q1 := cell_regrown cs
          have q2 := cell_regrown ct
          have q3 := cell_regrown hsw
          refine wp_region_moves_tail 14 _ rfl rfl rfl (by kernel_rfl) (by kernel_rfl) (fun _ _ _ _ h => h) ?_
          simp only [Nat.reduceSub, List.take_succ_cons, List.take_zero, List.drop_succ_cons, List.drop_zero]
          dsimp only [Act.put, Act.eval]
          repeat (first | go_big_quiet_step (fail) | quiet_step (fail))
          refine wpQuiet_nil ?_
          intro W4 hb4
          have HO4 := Lib.hid (HO.out.below hb4)
          have hbB := hbt.trans (hb4.mono hszt)
          have hsz4 := Nat.le_trans hszt hb4.size
          clear HO hbt hb4 q1 q2 q3 cs ct hsw hbz HXz
          go_wp2_with (at_builtin; refine wpList_append_sl rfl (.tmp 28) (.tmp 42) 46 rfl F 5 i0 (.int .u8 0) 1 Tryz.underlying46 hi hz0 hz1 hz2 rfl ao k cp _ rfl (HO4.out.alloc _) HLo.out ⟨W4.heap.size, 0, none⟩ 1 1 [.int .u8 _] rfl rfl (cell_one_new _ _ _) ?b2 ?b3 ?b4 ?b5 ?_)
          case b2 => intro u hu; simp at hu; subst hu; rfl
          case b3 => omega
          case b4 => omega
          case b5 => simp; omega
          intro ao5 cp5 W5 hown5 hgrow5
          have hb5 : Below F _ W5 := below_append (hbB.alloc hsz4 _) (by simp; omega) (HO4.out.alloc _) hgrow5
          have hsz5 : F ≤ W5.heap.size := by have := hgrow5.size; simp at this; omega
          rw [HNk.out] at hown5
          clear hgrow5 HO4 hbB hsz4
          go_wp2_with fail
          go_roundw
          case rel => exact ⟨k + 1, ao5, cp5, by omega, by go_num, rfl, hown5, hb5, hsz5⟩
          case measure => simp [intOf]; omega
        · have hd2 : decide ((k : Int) < 16) = false := by simp; omega
          obtain rfl : k = 16 := by omega
          rw [show ((16 : Nat) : Int) = (16 : Int) from rfl]
          obtain ⟨T, rfl, hTb⟩ := own_bytes HO.out (genL_length (ssF sl) 16) (by omega)
          rw [ss_eq sl HSL.out] at hTb
          have HTb := Lib.hid hTb
          have hBz : B < wr.heap.size := by omega
          clear hTb HO HX HG hbt
          by_cases hn10 : n < 10
          · have hd3 : decide ((n : Int) < 10) = true := by simp; omega
            obtain ⟨F2, hF2⟩ : ∃ F2, wr.heap.size = F2 := ⟨_, rfl⟩
            have hF2w : F2 ≤ wr.heap.size := by omega
            have hBF2 : B < F2 := by omega
            have hTF : T < F2 := by rw [← hF2]; exact block_lt_of_cell (HTb.out 0 (by omega))
            have hown0 := Own.nil wr F2
            have hbF : Below F2 wr wr := Below.refl _ _
            have hbz0 : Below B w wr := hbz
            generalize shS (swS sl) = tl at *
            go_wp2_with fail
            go_loopw [9, 10] (fun uv cv wt => ∃ (q c : Nat) (ao : Option Addr) (cp : Nat), q ≤ 4 ∧ Hid (c = 4 * q) ∧ cv = .int .i64 (c : Int) ∧ uv = .slice ao c cp ∧ Own wt F2 (.slice ao c cp) (Lib.byteCells (genL (mxF tl) c)) ∧ Below F2 wr wt ∧ F2 ≤ wt.heap.size) (fun _ cv _ => 16 - (intOf cv).toNat)
            case atStart => exact ⟨0, 0, none, 0, by omega, Lib.hid rfl, rfl, rfl, hown0, hbF, hF2w⟩
            case round =>
              clear hown0 hbF
              obtain ⟨q, c, ao, cp, hq, HC4, rfl, rfl, hown, hbt, hszt⟩ := hrel
              have HO := Lib.hid hown
              clear hown
              have hc4 := HC4.out
              by_cases hlq : c < 16
              · have hd4 : decide ((c : Int) < 16) = true := by simp; omega
                have hbt0 := hbt
                clear hc4
                go_wp2_with fail
                go_loopw [9, 11] (fun uv rv wt => ∃ (r m : Nat) (ao : Option Addr) (cp : Nat), r ≤ 4 ∧ Hid (m = c + r) ∧ rv = .int .i64 (r : Int) ∧ uv = .slice ao m cp ∧ Own wt F2 (.slice ao m cp) (Lib.byteCells (genL (mxF tl) m)) ∧ Below F2 wr wt ∧ F2 ≤ wt.heap.size) (fun _ rv _ => 4 - (intOf rv).toNat)
                case atStart => exact ⟨0, c, ao, cp, by omega, Lib.hid rfl, rfl, rfl, HO.out, Below.refl _ _, hszt⟩
                case round =>
                  clear HO
                  obtain ⟨r, m, ao, cp, hr4, HM, rfl, rfl, hown, hbr, hszr⟩ := hrel
                  have HO := Lib.hid hown
                  have HLo := Lib.hid (bcs_length _ _ (genL_length (mxF tl) m))
                  have hbt2 := hbt0.trans hbr
                  clear hown
                  have hmm := HM.out
                  have hcc := HC4.out
                  by_cases hlr : r < 4
                  · have hd5 : decide ((r : Int) < 4) = true := by simp; omega
                    have hTr := HTb.out.below hbt2 hTF
                    have hr1 : (r + 1) % 4 < 4 := Nat.mod_lt _ (by omega)
                    have hr2 : (r + 2) % 4 < 4 := Nat.mod_lt _ (by omega)
                    have hr3 : (r + 3) % 4 < 4 := Nat.mod_lt _ (by omega)
                    have c0 := hTr (c + r) (by omega)
                    have c1 := hTr (c + (r + 1) % 4) (by omega)
                    have c2 := hTr (c + (r + 2) % 4) (by omega)
                    have c3 := hTr (c + (r + 3) % 4) (by omega)
                    have HMix := Lib.hid (mix_ref (tl.getD (c + r) 0) (tl.getD (c + (r + 1) % 4) 0) (tl.getD (c + (r + 2) % 4) 0) (tl.getD (c + (r + 3) % 4) 0))
                    have HNm := Lib.hid (show Lib.byteCells (genL (mxF tl) m) ++ [.int .u8 ((mxB (tl.getD (c + r) 0) (tl.getD (c + (r + 1) % 4) 0) (tl.getD (c + (r + 2) % 4) 0) (tl.getD (c + (r + 3) % 4) 0)).toNat : Int)] = Lib.byteCells (genL (mxF tl) (m + 1)) from by
                      rw [bcs_snoc, ← genL_succ, mxF, show m / 4 * 4 = c by omega, show m % 4 = r by omega])
                    have l0 := UInt8.toNat_lt (tl.getD (c + r) 0)
                    have l1 := UInt8.toNat_lt (tl.getD (c + (r + 1) % 4) 0)
                    have HT2 := Lib.hid (fun W => refTimesB (tl.getD (c + r) 0).toNat 2 W l0 (by omega))
                    have HT3 := Lib.hid (fun W => refTimesB (tl.getD (c + (r + 1) % 4) 0).toNat 3 W l1 (by omega))
                    have z1 : ((r : Int) + 1) % 4 = (((r + 1) % 4 : Nat) : Int) := by omega
                    have z2 : ((r : Int) + 2) % 4 = (((r + 2) % 4 : Nat) : Int) := by omega
                    have z3 : ((r : Int) + 3) % 4 = (((r + 3) % 4 : Nat) : Int) := by omega
                    have y1 : ((r : Int) + 1).tmod 4 = (((r + 1) % 4 : Nat) : Int) := by rw [Int.tmod_eq_emod_of_nonneg (by omega)]; omega
                    have y2 : ((r : Int) + 2).tmod 4 = (((r + 2) % 4 : Nat) : Int) := by rw [Int.tmod_eq_emod_of_nonneg (by omega)]; omega
                    have y3 : ((r : Int) + 3).tmod 4 = (((r + 3) % 4 : Nat) : Int) := by rw [Int.tmod_eq_emod_of_nonneg (by omega)]; omega
                    have w1 : IntKind.i64.wrap ((r : Int) + 1) = (r : Int) + 1 := IntWalk.i64_in _ (by omega)
                    have w2 : IntKind.i64.wrap ((r : Int) + 2) = (r : Int) + 2 := IntWalk.i64_in _ (by omega)
                    have w3 : IntKind.i64.wrap ((r : Int) + 3) = (r : Int) + 3 := IntWalk.i64_in _ (by omega)
                    have hcb : c ≤ 12 := by omega
                    clear hmm hcc hTr
                    generalize (r + 1) % 4 = r1 at *
                    generalize (r + 2) % 4 = r2 at *
                    generalize (r + 3) % 4 = r3 at *
                    generalize tl.getD (c + r) 0 = x0 at *
                    generalize tl.getD (c + r1) 0 = x1 at *
                    generalize tl.getD (c + r2) 0 = x2 at *
                    generalize tl.getD (c + r3) 0 = x3 at *
                    have f0 : IntKind.i64.wrap ((c : Int) + (r : Int)) = (c : Int) + (r : Int) := IntWalk.i64_in _ (by omega)
                    have f1 : IntKind.i64.wrap ((c : Int) + (r1 : Int)) = (c : Int) + (r1 : Int) := IntWalk.i64_in _ (by omega)
                    have f2 : IntKind.i64.wrap ((c : Int) + (r2 : Int)) = (c : Int) + (r2 : Int) := IntWalk.i64_in _ (by omega)
                    have f3 : IntKind.i64.wrap ((c : Int) + (r3 : Int)) = (c : Int) + (r3 : Int) := IntWalk.i64_in _ (by omega)
                    have k0 : IntKind.i64.wrap (x0.toNat : Int) = (x0.toNat : Int) := IntWalk.i64_in _ (by omega)
                    have k1 : IntKind.i64.wrap (x1.toNat : Int) = (x1.toNat : Int) := IntWalk.i64_in _ (by omega)
                    have k2 : IntKind.i64.wrap (x2.toNat : Int) = (x2.toNat : Int) := IntWalk.i64_in _ (by have := UInt8.toNat_lt x2; omega)
                    have k3 : IntKind.i64.wrap (x3.toNat : Int) = (x3.toNat : Int) := IntWalk.i64_in _ (by have := UInt8.toNat_lt x3; omega)
                    go_wp2_with fail
                    have q0 := cell_regrown c0
                    have q1 := cell_regrown c1
                    have q2 := cell_regrown c2
                    have q3 := cell_regrown c3
                    refine wp_region_reads (by kernel_rfl) (by kernel_rfl) ?_
                    repeat (first | go_big_quiet_step ((first | with_reducible exact Calls.regrown_of (HT2.out _) | with_reducible exact Calls.regrown_of (HT3.out _))) | quiet_step ((first | with_reducible exact Calls.regrown_of (HT2.out _) | with_reducible exact Calls.regrown_of (HT3.out _))))
                    refine wpQuiet_nil ?_
                    intro W4 hb4
                    have HO4 := Lib.hid (HO.out.below hb4)
                    have hbB := hbr.trans (hb4.mono hszr)
                    have hsz4 := Nat.le_trans hszr hb4.size
                    clear HO hbr hb4 q0 q1 q2 q3 c0 c1 c2 c3 hbt2 HT2 HT3
                    go_wp2_with (at_builtin; refine wpList_append_sl rfl (.tmp 93) (.tmp 96) 46 rfl F2 5 i0 (.int .u8 0) 1 Tryz.underlying46 hi hz0 hz1 hz2 rfl ao m cp _ rfl (HO4.out.alloc _) HLo.out ⟨W4.heap.size, 0, none⟩ 1 1 [.int .u8 _] rfl rfl (cell_one_new _ _ _) ?b2 ?b3 ?b4 ?b5 ?_)
                    case b2 => intro u hu; simp at hu; subst hu; rfl
                    case b3 => have := HM.out; omega
                    case b4 => have := HM.out; omega
                    case b5 => simp; omega
                    intro ao5 cp5 W5 hown5 hgrow5
                    have hb5 : Below F2 _ W5 := below_append (hbB.alloc hsz4 _) (by simp; omega) (HO4.out.alloc _) hgrow5
                    have hsz5 : F2 ≤ W5.heap.size := by have := hgrow5.size; simp at this; omega
                    rw [← HMix.out, HNm.out] at hown5
                    clear hgrow5 HO4 hbB hsz4
                    go_wp2_with fail
                    go_roundw
                    case rel => exact ⟨r + 1, m + 1, ao5, cp5, by omega, Lib.hid (by have := HM.out; omega), by go_num, rfl, hown5, hb5, hsz5⟩
                    case measure => simp [intOf]; omega
                  · have hd5 : decide ((r : Int) < 4) = false := by simp; omega
                    obtain rfl : r = 4 := by omega
                    go_wp2_with fail
                    go_roundw
                    case rel => exact ⟨q + 1, m, ao, cp, by omega, Lib.hid (by omega), by rw [show m = c + 4 by omega]; go_num, rfl, HO.out, hbt2, hszr⟩
                    case measure => simp [intOf]; omega
              · have hd4 : decide ((c : Int) < 16) = false := by simp; omega
                obtain rfl : c = 16 := by omega
                clear hc4
                obtain ⟨U, rfl, hUb⟩ := own_bytes HO.out (genL_length (mxF tl) 16) (by omega)
                rw [mx_eq] at hUb
                have HXB := Lib.hid hUb
                have hbz : Below B w wr := hbz0.trans (hbt.mono (by omega))
                have HXz2 := Lib.hid (blk_below hbt hBF2 HXz.out)
                clear HXz
                have HXz := HXz2
                have hBz : B < wr.heap.size := by omega
                clear HXz2 hUb HO hbt
                have hKn := (HK0.out.below hbz hKl) n (by omega)
                have HWn := Lib.hid (with_any U cp (mxS tl) ⟨(rk key n).toArray⟩ wr (by rw [arr_size]; exact rk_length key HKL.out n) HXB.out)
                have hx0 := (sheet_cells HXz.out).1
                go_wp2_with fail
                refine HWn.out.mono ?_
                rintro e W9 ⟨⟨G9, gc9, rfl, hG9⟩, hb9⟩
                have HG9 := Lib.hid hG9
                have hbf := hbz.trans (hb9.mono (by omega))
                have HXf := Lib.hid (blk_below hb9 hBz HXz.out)
                have hBf : B < W9.heap.size := Nat.lt_of_lt_of_le hBz hb9.size
                clear HWn hx0 hKn hG9 hbz hb9 HXz HXB hBz
                go_wp2_with fail
                go_roundw
                case rel => exact ⟨n + 1, G9, gc9, by omega, by omega, by go_num, rfl, by rw [show n + 1 - 1 = n by omega, ← HMid.out hn10]; exact HG9.out, hbf, HXf.out, hBf⟩
                case measure => simp [intOf]; omega
          · have hd3 : decide ((n : Int) < 10) = false := by simp; omega
            have HN10 := Lib.hid (show n = 10 by omega)
            have HXB := HTb
            have hKn := (HK0.out.below hbz hKl) n (by omega)
            have HWn := Lib.hid (with_any T cp (shS (swS sl)) ⟨(rk key n).toArray⟩ wr (by rw [arr_size]; exact rk_length key HKL.out n) HXB.out)
            have hx0 := (sheet_cells HXz.out).1
            go_wp2_with fail
            refine HWn.out.mono ?_
            rintro e W9 ⟨⟨G9, gc9, rfl, hG9⟩, hb9⟩
            have HG9 := Lib.hid hG9
            have hbf := hbz.trans (hb9.mono (by omega))
            have HXf := Lib.hid (blk_below hb9 hBz HXz.out)
            have hBf : B < W9.heap.size := Nat.lt_of_lt_of_le hBz hb9.size
            clear HWn hx0 hKn hG9 hbz hb9 HXz HXB hBz
            go_wp2_with fail
            go_roundw
            case rel => exact ⟨n + 1, G9, gc9, by omega, by omega, by go_num, rfl, by rw [show n + 1 - 1 = n by omega, ← HEnd.out HN10.out]; exact HG9.out, hbf, HXf.out, hBf⟩
            case measure => simp [intOf]; omega
    · have hd : decide ((n : Int) ≤ 10) = false := by simp; omega
      obtain rfl : n = 11 := by omega
      have hrow : stR key blk (11 - 1) = enL key blk := by rw [stR, if_neg (by omega)]
      rw [hrow] at hG
      have hel := enL_length key blk
      have hcv := run_string_at wr G 0 gc 16 (enL key blk) hel (fun j x hx => by
        have hj : j < 16 := by have := (List.getElem?_eq_some_iff.1 hx).1; omega
        rw [Nat.zero_add, hG j hj, List.getD_eq_getElem?_getD, hx]; rfl)
      clear hrow hG hel
      go_wp2_with fail
      go_ret
      exact ⟨by rw [HBLK.out]; rfl, by rw [HBB.out]; exact hb⟩
end

section
open Go.RowKit Go.Sort
set_option maxRecDepth 100000
set_option linter.unusedSimpArgs false
set_option linter.unusedVariables false

theorem keysAt_of_own {W : World} {base cap : Nat} {ao : Option Addr} {key : List UInt8} (h : Own W base (.slice ao 11 cap) ((List.range 11).map fun i => Value.string ⟨(rk key i).toArray⟩)) : ∃ K, ao = some ⟨K, 0, none⟩ ∧ KeysAt W K key := by
  obtain ⟨g, c, hv, ho, _⟩ := h.some (by simp)
  injection hv with h1 _ _
  exact ⟨g, h1, fun j hj => ho.cells j _ (by simp [hj])⟩
theorem infoSheet : (Tryz.prog.info? 74).map (fun i => (i.zero, i.size)) = some (some (.agg #[.slice none 0 0, .slice none 0 0]), 2) := by kernel_rfl

set_option maxHeartbeats 1000000 in
theorem ready_any (key : ByteArray) (w : World) (hk : key.size = 16) :
    Calls Tryz.prog 48 #[.string key] w fun e w' => (∃ K kc S, e = .returned (.agg (sheetC K kc S 256)) ∧ KeysAt w' K key.data.toList ∧ TabB w' S) ∧ Below w.heap.size w w' := by
  obtain ⟨hz, hi⟩ := zero_of_info infoSheet
  have HR0 := Lib.hid (blk_new w (.cells #[.slice none 0 0, .slice none 0 0] 74))
  have hb0 := below_new w (.cells #[.slice none 0 0, .slice none 0 0] 74)
  have HKS := Lib.hid hk
  have HI := Lib.hid hi
  clear hk hi
  go_enter Tryz.func48, Tryz.ntmps48
  go_wp2_with fail
  clear hz
  generalize hBB : w.heap.size = B at *
  have HBB := Lib.hid hBB
  clear hBB
  generalize w.alloc _ = W0 at *
  refine (table_any W0).mono ?_
  rintro e W1 ⟨⟨S, rfl, hS0, hS⟩, hb1⟩
  have hl0 := blk_lt HR0.out
  have HR1 := Lib.hid (blk_below hb1 hl0 HR0.out)
  have hTB := TabB.of_row hS
  have hb2 : Below B w W1 := hb0.trans (hb1.mono (by omega))
  have HK := Lib.hid (refKeys_any key S 256 W1 HKS.out hTB)
  have hl1 := blk_lt HR1.out
  clear hb0 hb1 HR0 hS
  go_wp2_with fail
  refine HK.out.mono ?_
  rintro e W2 ⟨⟨ao, cap, rfl, hown⟩, hb3⟩
  obtain ⟨K, rfl, hKA⟩ := keysAt_of_own hown
  have HR2 := Lib.hid (blk_below hb3 hl1 HR1.out)
  have hTB2 := hTB.below hb3 hTB.lt
  have hb4 := hb2.trans (hb3.mono (by omega))
  have hl2 := blk_lt HR2.out
  have hSne : S ≠ B := by omega
  clear hown hb3 hb2 HR1 HK hTB
  have hKne : K ≠ B := by
    intro e
    subst e
    have h1 := hKA 0 (by omega)
    rw [cell_of_row _ _ _ _ _ _ HR2.out] at h1
    simp at h1
  have HKA := Lib.hid hKA
  have HTB := Lib.hid hTB2
  clear hKA hTB2
  have HIs := Lib.hid (show (Tryz.prog.info? 74).map (·.size) = some (sheetC K cap S 256).size from HI.out)
  have HOs := Lib.hid (show (#[Value.slice none 0 0, Value.slice none 0 0] : Array Value).size = (sheetC K cap S 256).size from rfl)
  have H1s := Lib.hid (show (sheetC K cap S 256).all (·.oneCell') = true from by simp [sheetC, Value.oneCell'])
  go_wp2_with (first
    | (with_reducible refine wpList_store_row rfl 74 _ _ rfl B (sheetC K cap S 256) rfl rfl 74 _ HR2.out HIs.out HOs.out H1s.out ?_))
  have hKf : KeysAt (W2.setRow B (sheetC K cap S 256)) K key.data.toList := fun j hj => by
    rw [World.cell?_of_block (a := ⟨K, j, none⟩) (setRow_other W2 B K _ hKne)]; exact HKA.out j hj
  have hTf : TabB (W2.setRow B (sheetC K cap S 256)) S := fun x => by
    rw [World.cell?_of_block (a := ⟨S, x.toNat, none⟩) (setRow_other W2 B S _ hSne)]; exact HTB.out x
  exact bodyPost_ret (v := .agg (sheetC K cap S 256)) (results_cell_row (by rfl) _ _ B 74 _ (0, 0) _ rfl (setRow_heap _ _ _ _ _ _ HR2.out) Tryz.underlying74 rfl HIs.out) rfl ⟨⟨K, cap, S, rfl, hKf, hTf⟩, by rw [HBB.out]; exact below_setRow hb4 (Nat.le_refl _) _⟩
end
end Go.Proofs.YtffnafikegakcaaGreatDoor
