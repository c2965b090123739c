/- (running).sum at words of 64 bits: the digest of what has been written. -/
import Derived.Test.YthcfolefdalaiaaDoorStart64
import Derived.Test.YthcfolefdalaiaaDoorSum32
import Derived.Test.YthcfolefdalaiaaDoorPad512
namespace Go.Proofs.YthcfolefdalaiaaDoor
open Go.RowKit Go.Sort
set_option maxRecDepth 100000
set_option linter.unusedSimpArgs false
set_option linter.unusedVariables false

def dig64 (s : W8) : List UInt8 := (List.range 64).map fun i => wbyte (s.at (i / 8)) (56 - 8 * (i % 8))
theorem dig64_length (s : W8) : (dig64 s).length = 64 := by simp [dig64]
theorem dig64_snoc (s : W8) (k m : Nat) (hk : k < 8) (hm : m < 8) : (dig64 s).take (8 * k + m + 1) = (dig64 s).take (8 * k + m) ++ [wbyte (s.at k) (56 - 8 * m)] := by
  rw [List.take_succ_eq_append_getElem (by rw [dig64_length]; omega)]
  have h1 : (8 * k + m) / 8 = k := by omega
  have h2 : (8 * k + m) % 8 = m := by omega
  simp [dig64, h1, h2]

/-- The cells of a new row of 64 bytes. -/
def zeros64 : Array Value := bcells (List.replicate 64 0)

set_option maxHeartbeats 1000000 in
set_option maxRecDepth 100000 in
theorem sum64_any (K : Nat → Int) (st : W8) (rest : ByteArray) (n : Nat) (w : World) (hK : TabK w K) (hr : rest.size < 128) (hn : n ≤ 1099511627776) :
    Calls Tryd.prog 42 #[.agg (rc64 [] [] st rest n), prm512] w fun e w' => e = .returned (.string ⟨(dig64 (full64 (fun t => K t) st (rest.data.toList ++ padL 128 16 n))).toArray⟩) ∧ Below w.heap.size w w' := by
  go_enter Tryd.func42, Tryd.ntmps42
  go_wp2_with fail
  have hP : PrmBt ((w.alloc (.cells (rc64 [] [] st rest n) 65)).alloc (.cells #[.int .i64 128, .int .i64 80, .int .u64 1, .int .u64 8, .int .u64 7, .int .u64 19, .int .u64 61, .int .u64 6, .int .u64 14, .int .u64 18, .int .u64 41, .int .u64 28, .int .u64 34, .int .u64 39] 52)) (w.heap.size + 1) := blk_new2 w _ _
  have hR := blk_old (o := (.cells #[.int .i64 128, .int .i64 80, .int .u64 1, .int .u64 8, .int .u64 7, .int .u64 19, .int .u64 61, .int .u64 6, .int .u64 14, .int .u64 18, .int .u64 41, .int .u64 28, .int .u64 34, .int .u64 39] 52)) (blk_new w (.cells (rc64 [] [] st rest n) 65))
  have hB := below_new2 w (.cells (rc64 [] [] st rest n) 65) (.cells #[.int .i64 128, .int .i64 80, .int .u64 1, .int .u64 8, .int .u64 7, .int .u64 19, .int .u64 61, .int .u64 6, .int .u64 14, .int .u64 18, .int .u64 41, .int .u64 28, .int .u64 34, .int .u64 39] 52)
  have hT := hK.below hB hK.lt
  have hlow := hK.lt
  generalize ((w.alloc _).alloc _) = W at *
  generalize hBB : w.heap.size = B at *
  have HBB := Lib.hid hBB
  have HP := Lib.hid hP; have HR := Lib.hid hR
  have cl : W.cell? ⟨B, 9, none⟩ = some (.int .u64 (n : Int)) := by
    rw [cell_of_row W _ _ _ _ _ hR]; exact rc64_len [] [] st rest n
  clear hBB hP hR hK
  obtain ⟨c0, c1, c2, c3, c4, c5, c6, c7, c8, c9, c10, c11, c12, c13⟩ := HP.out.cells
  have k0 := cell_regrown c0; have k1 := cell_regrown c1; have k2 := cell_regrown c2; have k3 := cell_regrown c3; have k4 := cell_regrown c4
  have k5 := cell_regrown c5; have k6 := cell_regrown c6; have k7 := cell_regrown c7; have k8 := cell_regrown c8; have k9 := cell_regrown c9
  have k10 := cell_regrown c10; have k11 := cell_regrown c11; have k12 := cell_regrown c12; have k13 := cell_regrown c13
  have kl := cell_regrown cl
  refine wp_region_reads_tail 5 (by kernel_rfl) (by kernel_rfl) ?_
  simp only [List.take_succ_cons, List.take_zero, List.drop_succ_cons, List.drop_zero]
  repeat (quiet_step ((go_at_call 52; exact Calls.regrown_of (padding512_any n _ hn))))
  refine wpQuiet_nil ?_
  intro W1 hb1
  clear k0 k1 k2 k3 k4 k5 k6 k7 k8 k9 k10 k11 k12 k13 c0 c1 c2 c3 c4 c5 c6 c7 c8 c9 c10 c11 c12 c13 kl cl
  have hpl : (⟨(padL 128 16 n).toArray⟩ : ByteArray).size ≤ 1099511627776 := by
    have : ((2 * 128 - (n % 128 + 1 + 16)) % 128) < 128 := Nat.mod_lt _ (by omega)
    show (padL 128 16 n).toArray.size ≤ _
    simp [padL, be_length]; omega
  go_wp2_with fail
  refine (write64_any K B 65 [] [] st rest ⟨(padL 128 16 n).toArray⟩ n W1 (blk_below hb1 (blk_lt HR.out) HR.out) (hT.below hb1 hT.lt) (by omega) hr hpl (by omega) (by omega)).mono ?_
  rintro e W2 ⟨rfl, rest2, hrest2, hrun2, hbut⟩
  have hP2 : PrmBt W2 (B + 1) := (hbut.block _ (Nat.lt_of_lt_of_le (blk_lt HP.out) hb1.size) (by omega)).trans (HP.out.below hb1 (blk_lt HP.out))
  have hB2 : Below B w W2 := (hB.trans (hb1.mono (Nat.le_of_lt (blk_lt HR.out)))).trans (hbut.below (Nat.le_refl _) (Nat.le_trans (Nat.le_of_lt (blk_lt HR.out)) hb1.size))
  replace HP := Lib.hid hP2
  clear HR hT hb1 hrest2 hbut hP2 hB hpl
  generalize hOut : full64 (fun t => K t) st (rest.data.toList ++ padL 128 16 n) = out at *
  have HOut := Lib.hid hOut
  clear hOut
  generalize (n : Int) + ((⟨(padL 128 16 n).toArray⟩ : ByteArray).size : Int) = ln at *
  have HW := Lib.hid hrun2
  clear hrun2
  obtain ⟨c0, c1, c2, c3, c4, c5, c6, c7, c8, c9, c10, c11, c12, c13⟩ := HP.out.cells
  go_wp2_with fail
  refine (wordBytes512 _).mono ?_
  rintro e W3 ⟨rfl, hb3⟩
  clear c0 c1 c2 c3 c4 c5 c6 c7 c8 c9 c10 c11 c12 c13
  have hW3 := blk_below hb3 (blk_lt HW.out) HW.out
  have hP3 := HP.out.below hb3 (blk_lt HP.out)
  have hB3 : Below B w W3 := hB2.trans (hb3.mono (Nat.le_of_lt (blk_lt HW.out)))
  have hlt3 := blk_lt hP3
  obtain ⟨i0, hi, hz0, hz1, hz2⟩ := info_parts info_u8
  have hmk : ∀ W : World, (Instr.makeSlice 46 (.int .i64 0) (.int .i64 64)).run Tryd.prog W = .ok (.slice (some ⟨W.heap.size, 0, none⟩) 0 64) (W.alloc (.cells zeros64 5)) := fun W => by
    have h := run_make (P := Tryd.prog) W 46 5 i0 (.int .u8 0) Tryd.underlying46 hi hz0 .i64 .i64 0 64 (by omega) (by omega) (by rw [hz2]; omega) (by omega)
    rw [hz1, made_zero] at h
    exact h
  have hW4 : (W3.alloc (.cells zeros64 5)).heap[B]? = _ := blk_old hW3
  have m : ∀ j, j < 8 → (W3.alloc (.cells zeros64 5)).cell? ⟨B, j, none⟩ = some (.int .u64 (out.at j)) := fun j hj => by
    rw [cell_of_row _ _ _ _ _ _ hW4]; simpa using rc64_state [] [] out rest2 ln j hj
  have m0 := m 0 (by omega); have m1 := m 1 (by omega); have m2 := m 2 (by omega); have m3 := m 3 (by omega); have m4 := m 4 (by omega); have m5 := m 5 (by omega); have m6 := m 6 (by omega); have m7 := m 7 (by omega)
  simp only [W8.at] at m0 m1 m2 m3 m4 m5 m6 m7
  have hP4 : PrmBt (W3.alloc (.cells zeros64 5)) (B + 1) := blk_old hP3
  have hB4 : Below B w (W3.alloc (.cells zeros64 5)) := hB3.alloc (by omega) _
  have hO4 : (W3.alloc (.cells zeros64 5)).ownsRow B 5 1 (.slice (some ⟨W3.heap.size, 0, none⟩) 0 64) 0 (Lib.byteCells ((dig64 out).take 0)) :=
    ⟨rfl, .inr ⟨W3.heap.size, 64, _, rfl, by omega, blk_new W3 _, by omega, by unfold maxLen; omega, by rw [zeros64, bcells_size]; simp, rfl⟩⟩
  have HO4 := Lib.hid hO4; have HP4 := Lib.hid hP4
  clear hW3 hP3 hB3 hW4 m HP HW hB2 hb3 hO4 hP4
  go_wp2_with fail
  clear m0 m1 m2 m3 m4 m5 m6 m7 hmk
  have hBG : B + 1 < W3.heap.size := hlt3
  generalize (W3.alloc _) = W4 at *
  generalize W3.heap.size = G at *
  go_loopw [5, 21] (fun o i wr => ∃ k : Nat, k ≤ 8 ∧ i = .int .i64 k ∧ o = .slice (some ⟨G, 0, none⟩) (8 * k) 64 ∧ wr.ownsRow B 5 1 (.slice (some ⟨G, 0, none⟩) (8 * k) 64) (8 * k) (Lib.byteCells ((dig64 out).take (8 * k))) ∧ PrmBt wr (B + 1) ∧ Below B w wr) (fun _ i _ => 8 - (intOf i).toNat)
  case atStart => exact ⟨0, by omega, rfl, rfl, HO4.out, HP4.out, hB4⟩
  case round =>
    clear HO4 HP4 hB4
    obtain ⟨k, hk, rfl, rfl, hown, hp, hb⟩ := hrel
    have HP := Lib.hid hp
    have HOwn := Lib.hid hown
    clear hp hown
    by_cases hk8 : k < 8
    · have hd : decide ((k : Int) < 8) = true := by simp; omega
      have hix : ∀ w, (Instr.index 63 (.agg #[.int .u64 out.a, .int .u64 out.b, .int .u64 out.c, .int .u64 out.d, .int .u64 out.e, .int .u64 out.f, .int .u64 out.g, .int .u64 out.h]) (.int .i64 (k : Int))).run Tryd.prog w = .ok (.int .u64 (out.at k)) w := fun w => index8_64 out w k hk8
      obtain ⟨c0, c1, c2, c3, c4, c5, c6, c7, c8, c9, c10, c11, c12, c13⟩ := HP.out.cells
      go_wp2_with fail
      refine (wordBits512 _).mono ?_
      rintro e W5 ⟨rfl, hb5⟩
      clear c0 c1 c2 c3 c4 c5 c6 c7 c8 c9 c10 c11 c12 c13
      go_wp2_with fail
      have hown5 := owns_below HOwn.out hb5
      have hp5 := HP.out.below hb5 (blk_lt HP.out)
      have hb6 : Below B w W5 := hb.trans (hb5.mono (by have := blk_lt HP.out; omega))
      clear HOwn HP hb hb5
      go_loopw [5, 8] (fun o sh wr => ∃ m s : Nat, m ≤ 8 ∧ s + 8 * m = 64 ∧ sh = .int .u64 (s : Int) ∧ o = .slice (some ⟨G, 0, none⟩) (8 * k + m) 64 ∧ wr.ownsRow B 5 1 (.slice (some ⟨G, 0, none⟩) (8 * k + m) 64) (8 * k + m) (Lib.byteCells ((dig64 out).take (8 * k + m))) ∧ PrmBt wr (B + 1) ∧ Below B w wr) (fun _ sh _ => (intOf sh).toNat)
      case atStart => exact ⟨0, 64, by omega, by omega, rfl, rfl, hown5, hp5, hb6⟩
      case round =>
        clear hown5 hp5 hb6 hix hd
        obtain ⟨m, s, hm, hs, rfl, rfl, hown, hp, hb⟩ := hrel
        have HP := Lib.hid hp
        clear hp
        by_cases hm4 : m < 8
        · have hd : decide ((0 : Int) < (s : Int)) = true := by simp; omega
          have hs8 : (8 : Int) ≤ (s : Int) := by omega
          have hs32 : (s : Int) ≤ 64 := by omega
          have hcap : 8 * k + m + 1 ≤ 64 := by omega
          have HSn := Lib.hid (dig64_snoc out k m hk8 hm4)
          have HS8 := Lib.hid (show s - 8 = 56 - 8 * m from by omega)
          have HW := Lib.hid (wbyte_toNat (out.at k) (s - 8))
          have HOwn := Lib.hid hown
          have HSM := Lib.hid hs
          clear hown hs
          generalize out.at k = v at *
          go_wp2_with (at_builtin; refine wpList_append_fits _ rfl (.tmp 30) (.tmp 35) 46 rfl B 5 i0 1 Tryd.underlying46 hi hz1 G (8 * k + m) 64 _ rfl (HOwn.out.alloc _) ⟨wr.heap.size, 0, none⟩ 1 1 [.int .u8 (v / 2 ^ (s - 8) % 256)] rfl rfl ?c1 ?c2 ?c3 ?_)
          case c1 =>
            intro j u hj
            match j, hj with
            | 0, hj => simp at hj; subst hj; simp [Addr.add]
          case c2 => intro u hu; simp at hu; subst hu; rfl
          case c3 => exact hcap
          · intro W6 hown6 hgrow
            have hown7 : W6.ownsRow B 5 1 (.slice (some ⟨G, 0, none⟩) (8 * k + (m + 1)) 64) (8 * k + (m + 1)) (Lib.byteCells ((dig64 out).take (8 * k + (m + 1)))) := by
              rw [← Nat.add_assoc, HSn.out, Lib.byteCells_append, ← HS8.out]
              have e : Lib.byteCells [wbyte v (s - 8)] = [.int .u8 (v / 2 ^ (s - 8) % 256)] := by simp [Lib.byteCells, HW.out]
              rw [e]
              exact hown6
            have hpl := blk_lt HP.out
            have hp7 : PrmBt W6 (B + 1) := (hgrow.block _ (by simp; omega) (by simp; omega)).trans (blk_old HP.out)
            have hb7 : Below B w W6 := (hb.alloc (by omega) _).grown hgrow (by simp; omega) (by intro k hk; simp at hk; omega)
            clear hown6 hgrow HOwn HP hb
            go_wp2_with fail
            go_roundw
            case rel => exact ⟨m + 1, s - 8, by omega, by have := HSM.out; omega, by go_num, rfl, hown7, hp7, hb7⟩
            case measure => simp [intOf]; omega
        · have hd : decide ((0 : Int) < (s : Int)) = false := by simp; omega
          obtain rfl : m = 8 := by omega
          go_wp2_with fail
          go_roundw
          case rel => exact ⟨k + 1, by omega, by go_num, by rw [Nat.mul_succ], hown, HP.out, hb⟩
          case measure => simp [intOf]; omega
    · have hd : decide ((k : Int) < 8) = false := by simp; omega
      obtain rfl : k = 8 := by omega
      have hcv := run_string_row wr G 64 (dig64 out) (fun j x hx => by
        have hj : j < 64 := by
          have := (List.getElem?_eq_some_iff.1 hx).1
          rwa [dig64_length] at this
        rw [HOwn.out.cellAt j (by omega), List.take_of_length_le (by rw [dig64_length]; omega)]
        simp [Lib.byteCells, hx])
      rw [dig64_length] at hcv
      go_wp2_with fail
      go_ret
      exact ⟨by rw [HOut.out]; rfl, by rw [HBB.out]; exact hb⟩
end Go.Proofs.YthcfolefdalaiaaDoor
