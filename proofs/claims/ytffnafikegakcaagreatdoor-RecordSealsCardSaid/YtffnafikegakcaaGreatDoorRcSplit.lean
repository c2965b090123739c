/- Package record: split: the record with which a buffer begins, or what is wrong with it. -/
import Derived.Test.YtffnafikegakcaaGreatDoorRcBuf
import Derived.Test.YtffnafikegakcaaGreatDoorRcFns
import Derived.Lib.SlBytesRow
namespace Go.Proofs.YtffnafikegakcaaGreatDoor
open Go.RowKit Go.Sort
set_option maxRecDepth 100000
set_option linter.unusedSimpArgs false
set_option linter.unusedVariables false

/-- What split answers. -/
def ansK (l : List UInt8) : Int := if nxE l = 0 then ((l.getD 0 0).toNat : Int) else 0
def ansB (l : List UInt8) : ByteArray := if nxE l = 0 then bodyB l else emB
def ansS (l : List UInt8) : Ending := .returned (.tuple #[.int .i64 (ansK l), .string (ansB l), .int .i64 (nxE l)])
theorem ans_bad (l : List UInt8) (e : Int) (h : nxE l = e) (he : e ≠ 0) : ansS l = .returned (.tuple #[.int .i64 0, .string emB, .int .i64 e]) := by
  rw [ansS, ansK, ansB, if_neg (by rw [h]; exact he), if_neg (by rw [h]; exact he), h]
theorem ans_good (l : List UInt8) (h : nxE l = 0) : ansS l = .returned (.tuple #[.int .i64 ((l.getD 0 0).toNat : Int), .string (bodyB l), .int .i64 0]) := by
  rw [ansS, ansK, ansB, if_pos h, if_pos h, h]
theorem rc_or8 (m : Int) (b : Nat) (hb : b < 256) (h0 : -36028797018963968 ≤ m) (h1 : m < 36028797018963968) : bits .or .i64 (m * 256) (b : Int) = m * 256 + (b : Int) := by
  have e1 : (BitVec.ofInt 64 (m * 256)).toNat = 2 ^ 8 * (m % 72057594037927936).toNat := by rw [BitVec.toNat_ofInt]; omega
  have e2 : (BitVec.ofInt 64 (b : Int)).toNat = b := by rw [BitVec.toNat_ofInt]; omega
  have h := Nat.two_pow_add_eq_or_of_lt (show b < 2 ^ 8 by omega) (m % 72057594037927936).toNat
  show IntKind.i64.wrap (((BitVec.ofInt 64 (m * 256) ||| BitVec.ofInt 64 (b : Int)).toNat : Nat) : Int) = _
  rw [BitVec.toNat_or, e1, e2, ← h, IntKind.wrap_i64]
  omega
theorem slice_from (g off n cap k : Nat) (hk : k ≤ n) (hn : n ≤ cap) : ∃ o2, (o2 = off + k ∨ cap = k ∧ o2 = off) ∧ ∀ W, (Instr.slice 46 (.slice (some ⟨g, off, none⟩) n cap) (some (.int .i64 (k : Int))) none none).run Tryz.prog W = .ok (.slice (some ⟨g, o2, none⟩) (n - k) (cap - k)) W := by
  have hz : ∀ W, (Go.sizeOf (Tryz.prog.elem 46)).run Tryz.prog W = .ok 1 W := fun W => arr_sizeOf (by kernel_rfl) W
  have ht : Tryz.prog.underlying 46 = some (.slice (Tryz.prog.elem 46)) := by kernel_rfl
  by_cases hc : cap = k
  · refine ⟨off, .inr ⟨hc, rfl⟩, fun W => ?_⟩
    rw [run_slice_l W _ _ _ _ ht .i64 _ (by omega) (by omega), hz]
    have hc2 : k = cap := hc.symm
    simp [Result.andThen, sliced, hc]
  · refine ⟨off + k, .inl rfl, fun W => ?_⟩
    rw [run_slice_l W _ _ _ _ ht .i64 _ (by omega) (by omega), hz]
    by_cases h0 : k = 0
    · subst h0; simp [Result.andThen, sliced, Addr.add, hc]
    · simp [Result.andThen, sliced, Addr.add, hc, h0]
theorem slice_upto (g off n cap k : Nat) (hk : k ≤ cap) (W : World) : (Instr.slice 46 (.slice (some ⟨g, off, none⟩) n cap) none (some (.int .i64 (k : Int))) none).run Tryz.prog W = .ok (.slice (some ⟨g, off, none⟩) k cap) W := by
  have hz : ∀ W, (Go.sizeOf (Tryz.prog.elem 46)).run Tryz.prog W = .ok 1 W := fun W => arr_sizeOf (by kernel_rfl) W
  have ht : Tryz.prog.underlying 46 = some (.slice (Tryz.prog.elem 46)) := by kernel_rfl
  rw [run_slice_h W _ _ _ _ ht .i64 _ (by omega) (by omega), hz]
  by_cases h0 : cap = 0
  · subst h0; simp [Result.andThen, sliced, Addr.add]
  · simp [Result.andThen, sliced, Addr.add]

set_option maxHeartbeats 4000000 in
theorem rcSplit_any (base : Nat) (v : Value) (l : List UInt8) (w : World) (hB : Buf w base v l) (hm : l.length ≤ 1048576) :
    Calls Tryz.prog 38 #[v] w fun e w' => e = ansS l ∧ Below w.heap.size w w' := by
  obtain ⟨n, hn⟩ : ∃ n, n = l.length := ⟨_, rfl⟩
  by_cases c0 : l.length = 0
  · have HA := Lib.hid (ans_bad l 33 (by rw [nxE, if_pos c0]) (by decide))
    obtain ⟨ao, cap, rfl, _⟩ := hB.shape
    rw [c0]
    clear hB hm c0 hn
    go_enter Tryz.func38, Tryz.ntmps38
    go_wp2_with fail
    go_ret3
    exact ⟨by rw [HA.out]; rfl, Below.refl _ _⟩
  rcases hB with ⟨_, rfl⟩ | ⟨g, off, cap, cur, rfl, _, hg, hfit, hlc, _, hc⟩
  · exact absurd rfl c0
  have cell : ∀ j, j < l.length → w.cell? ⟨g, off + j, none⟩ = some (.int .u8 ((l.getD j 0).toNat : Int)) := fun j hj => by
    rw [cell_of_row w g (off + j) cur 5 (0, 0) hg, hc j l[j] (List.getElem?_eq_getElem hj)]
    simp [List.getD_eq_getElem?_getD, hj]
  have k0 := cell 0 (by omega)
  rw [Nat.add_zero] at k0
  rw [← hn] at c0 hlc hm ⊢
  have d0 : ((n : Int) == 0) = false := by simp; omega
  have p0 : (0 : Int) < (n : Int) := by omega
  have x0 : IntKind.i64.wrap ((l.getD 0 0).toNat : Int) = ((l.getD 0 0).toNat : Int) := by have := (l.getD 0 0).toNat_lt; rw [IntKind.wrap_i64]; omega
  have CK := Lib.hid (fun W => isKind_any ((l.getD 0 0).toNat : Int) W)
  have N0 := Lib.hid (show ¬ l.length = 0 by omega)
  have HC := Lib.hid cell
  have HN := Lib.hid hn
  clear cell hc
  cases hk : isK ((l.getD 0 0).toNat : Int) with
  | false =>
    have HA := Lib.hid (ans_bad l 11 (by rw [nxE, if_neg N0.out, if_pos hk]) (by decide))
    rw [hk] at CK
    obtain ⟨b0, e0⟩ : ∃ b0, ((l.getD 0 0).toNat : Int) = b0 := ⟨_, rfl⟩
    rw [e0] at CK k0 x0
    clear hk e0 hn HC HN N0 hg hfit
    go_enter Tryz.func38, Tryz.ntmps38
    go_wp2_with fail
    refine (CK.out w).mono ?_
    rintro e W ⟨rfl, rfl⟩
    go_wp2_with fail
    go_ret3
    exact ⟨by rw [HA.out]; rfl, Below.refl _ _⟩
  | true =>
  have N1 := Lib.hid (show ¬ isK ((l.getD 0 0).toNat : Int) = false by rw [hk]; decide)
  rw [hk] at CK
  have E0 : Hid (∃ b0, ((l.getD 0 0).toNat : Int) = b0) := Lib.hid ⟨_, rfl⟩
  obtain ⟨b0, e0⟩ := E0.out
  rw [e0] at CK k0 x0
  replace e0 := Lib.hid e0
  clear hk E0
  by_cases c1 : 1 < n ∧ l.getD 1 0 ≠ 3
  · have HA := Lib.hid (ans_bad l 11 (by rw [nxE, if_neg N0.out, if_neg N1.out, if_pos (by rw [← HN.out]; exact c1)]) (by decide))
    have k1 := HC.out 1 (by omega)
    have d1 : decide ((1 : Int) < (n : Int)) = true := by simp; omega
    have p1 : (1 : Int) < (n : Int) := by omega
    have m1 : (((l.getD 1 0).toNat : Int) != 3) = true := by
      simp only [bne_iff_ne]; intro h; exact c1.2 (UInt8.toNat_inj.1 (by show (l.getD 1 0).toNat = 3; omega))
    obtain ⟨b1, e1⟩ : ∃ b1, ((l.getD 1 0).toNat : Int) = b1 := ⟨_, rfl⟩
    rw [e1] at k1 m1
    clear e1 c1 hn HC HN N0 N1 hg hfit
    go_enter Tryz.func38, Tryz.ntmps38
    go_wp2_with fail
    refine (CK.out w).mono ?_
    rintro e W ⟨rfl, rfl⟩
    go_wp2_with fail
    go_ret3
    exact ⟨by rw [HA.out]; rfl, Below.refl _ _⟩
  have N2 := Lib.hid (show ¬ (1 < l.length ∧ l.getD 1 0 ≠ 3) by rw [← HN.out]; exact c1)
  by_cases s1 : n = 1
  · have HA := Lib.hid (ans_bad l 33 (by rw [nxE, if_neg N0.out, if_neg N1.out, if_neg N2.out, if_neg (by rw [← HN.out]; omega), if_pos (by rw [← HN.out]; omega)]) (by decide))
    have d1 : decide ((1 : Int) < (n : Int)) = false := by simp; omega
    have d2 : decide ((2 : Int) < (n : Int)) = false := by simp; omega
    have d3 : decide ((n : Int) < 5) = true := by simp; omega
    clear s1 c1 hn HC HN N0 N1 N2 hg hfit
    go_enter Tryz.func38, Tryz.ntmps38
    go_wp2_with fail
    refine (CK.out w).mono ?_
    rintro e W ⟨rfl, rfl⟩
    go_wp2_with fail
    go_ret3
    exact ⟨by rw [HA.out]; rfl, Below.refl _ _⟩
  have k1 := HC.out 1 (by omega)
  have d1 : decide ((1 : Int) < (n : Int)) = true := by simp; omega
  have p1 : (1 : Int) < (n : Int) := by omega
  have y1 : l.getD 1 0 = 3 := Classical.byContradiction fun h => c1 ⟨by omega, h⟩
  rw [y1, show (((3 : UInt8).toNat : Nat) : Int) = 3 from rfl] at k1
  clear y1 c1
  by_cases c2 : 2 < n ∧ l.getD 2 0 ≠ 3
  · have HA := Lib.hid (ans_bad l 11 (by rw [nxE, if_neg N0.out, if_neg N1.out, if_neg N2.out, if_pos (by rw [← HN.out]; exact c2)]) (by decide))
    have k2 := HC.out 2 (by omega)
    have d2 : decide ((2 : Int) < (n : Int)) = true := by simp; omega
    have p2 : (2 : Int) < (n : Int) := by omega
    have m2 : (((l.getD 2 0).toNat : Int) != 3) = true := by
      simp only [bne_iff_ne]; intro h; exact c2.2 (UInt8.toNat_inj.1 (by show (l.getD 2 0).toNat = 3; omega))
    obtain ⟨b2, e2⟩ : ∃ b2, ((l.getD 2 0).toNat : Int) = b2 := ⟨_, rfl⟩
    rw [e2] at k2 m2
    clear e2 c2 s1 hn HC HN N0 N1 N2 hg hfit
    go_enter Tryz.func38, Tryz.ntmps38
    go_wp2_with fail
    refine (CK.out w).mono ?_
    rintro e W ⟨rfl, rfl⟩
    go_wp2_with fail
    go_ret3
    exact ⟨by rw [HA.out]; rfl, Below.refl _ _⟩
  have N3 := Lib.hid (show ¬ (2 < l.length ∧ l.getD 2 0 ≠ 3) by rw [← HN.out]; exact c2)
  by_cases s2 : n = 2
  · have HA := Lib.hid (ans_bad l 33 (by rw [nxE, if_neg N0.out, if_neg N1.out, if_neg N2.out, if_neg N3.out, if_pos (by rw [← HN.out]; omega)]) (by decide))
    have d2 : decide ((2 : Int) < (n : Int)) = false := by simp; omega
    have d3 : decide ((n : Int) < 5) = true := by simp; omega
    clear s1 s2 c2 hn HC HN N0 N1 N2 N3 hg hfit
    go_enter Tryz.func38, Tryz.ntmps38
    go_wp2_with fail
    refine (CK.out w).mono ?_
    rintro e W ⟨rfl, rfl⟩
    go_wp2_with fail
    go_ret3
    exact ⟨by rw [HA.out]; rfl, Below.refl _ _⟩
  have k2 := HC.out 2 (by omega)
  have d2 : decide ((2 : Int) < (n : Int)) = true := by simp; omega
  have p2 : (2 : Int) < (n : Int) := by omega
  have y2 : l.getD 2 0 = 3 := Classical.byContradiction fun h => c2 ⟨by omega, h⟩
  rw [y2, show (((3 : UInt8).toNat : Nat) : Int) = 3 from rfl] at k2
  clear y2 c2
  by_cases c3 : n < 5
  · have HA := Lib.hid (ans_bad l 33 (by rw [nxE, if_neg N0.out, if_neg N1.out, if_neg N2.out, if_neg N3.out, if_pos (by rw [← HN.out]; exact c3)]) (by decide))
    have d3 : decide ((n : Int) < 5) = true := by simp; omega
    clear s1 s2 c3 hn HC HN N0 N1 N2 N3 hg hfit
    go_enter Tryz.func38, Tryz.ntmps38
    go_wp2_with fail
    refine (CK.out w).mono ?_
    rintro e W ⟨rfl, rfl⟩
    go_wp2_with fail
    go_ret3
    exact ⟨by rw [HA.out]; rfl, Below.refl _ _⟩
  have N4 := Lib.hid (show ¬ l.length < 5 by rw [← HN.out]; exact c3)
  have d3 : decide ((n : Int) < 5) = false := by simp; omega
  have p3 : (3 : Int) < (n : Int) := by omega
  have p4 : (4 : Int) < (n : Int) := by omega
  have p5 : (5 : Int) ≤ (n : Int) := by omega
  have k3 := HC.out 3 (by omega)
  have k4 := HC.out 4 (by omega)
  have hb3 := (l.getD 3 0).toNat_lt
  have hb4 := (l.getD 4 0).toNat_lt
  obtain ⟨b3, e3⟩ : ∃ b3, (l.getD 3 0).toNat = b3 := ⟨_, rfl⟩
  obtain ⟨b4, e4⟩ : ∃ b4, (l.getD 4 0).toNat = b4 := ⟨_, rfl⟩
  obtain ⟨z, hz⟩ : ∃ z, z = szR l := ⟨_, rfl⟩
  have hzs : z = 256 * b3 + b4 := by rw [hz, szR, e3, e4]
  rw [e3] at k3 hb3
  rw [e4] at k4 hb4
  have HZ := Lib.hid hz
  have x3 : IntKind.i64.wrap (b3 : Int) = (b3 : Int) := by rw [IntKind.wrap_i64]; omega
  have x4 : IntKind.i64.wrap (b4 : Int) = (b4 : Int) := by rw [IntKind.wrap_i64]; omega
  have x5 : IntKind.i64.wrap ((b3 : Int) * 256) = (b3 : Int) * 256 := by rw [IntKind.wrap_i64]; omega
  have x6 : bits .or .i64 ((b3 : Int) * 256) (b4 : Int) = (z : Int) := by rw [rc_or8 _ _ (by omega) (by omega) (by omega)]; omega
  obtain ⟨o2, ho2, hsl⟩ := slice_from g off n cap 5 (by omega) hlc
  replace hsl : ∀ W, (Instr.slice 46 (.slice (some ⟨g, off, none⟩) n cap) (some (.int .i64 5)) none none).run Tryz.prog W = .ok (.slice (some ⟨g, o2, none⟩) (n - 5) (cap - 5)) W := hsl
  clear e3 e4 hz
  by_cases c4 : 16640 < z
  · have HA := Lib.hid (ans_bad l 13 (by rw [nxE, if_neg N0.out, if_neg N1.out, if_neg N2.out, if_neg N3.out, if_neg N4.out, if_pos (by rw [← HZ.out]; exact c4)]) (by decide))
    have d4 : decide ((16640 : Int) < (z : Int)) = true := by simp; omega
    clear s1 s2 c3 c4 hn HC HN N0 N1 N2 N3 N4 hg hfit ho2 HZ hzs
    go_enter Tryz.func38, Tryz.ntmps38
    go_wp2_with fail
    refine (CK.out w).mono ?_
    rintro e W ⟨rfl, rfl⟩
    go_wp2_with fail
    go_quiet (fail)
    go_wp2_with fail
    go_ret3
    exact ⟨by rw [HA.out]; rfl, below_drewN (Below.refl _ _) _⟩
  have N5 := Lib.hid (show ¬ 16640 < szR l by rw [← HZ.out]; exact c4)
  have d4 : decide ((16640 : Int) < (z : Int)) = false := by simp; omega
  by_cases c5 : n < 5 + z
  · have HA := Lib.hid (ans_bad l 33 (by rw [nxE, if_neg N0.out, if_neg N1.out, if_neg N2.out, if_neg N3.out, if_neg N4.out, if_neg N5.out, if_pos (by rw [← HN.out, ← HZ.out]; exact c5)]) (by decide))
    have d5 : n - 5 < z := by omega
    clear s1 s2 c3 c4 c5 hn HC HN N0 N1 N2 N3 N4 N5 hg hfit ho2 HZ hzs
    go_enter Tryz.func38, Tryz.ntmps38
    go_wp2_with fail
    refine (CK.out w).mono ?_
    rintro e W ⟨rfl, rfl⟩
    go_wp2_with fail
    go_quiet (fail)
    go_wp2_with fail
    go_ret3
    exact ⟨by rw [HA.out]; rfl, below_drewN (Below.refl _ _) _⟩
  · have HA := Lib.hid (ans_good l (by rw [nxE, if_neg N0.out, if_neg N1.out, if_neg N2.out, if_neg N3.out, if_neg N4.out, if_neg N5.out, if_neg (by rw [← HN.out, ← HZ.out]; exact c5)]))
    have d5 : ¬ n - 5 < z := by omega
    have hsl2 : ∀ W, (Instr.slice 46 (.slice (some ⟨g, o2, none⟩) (n - 5) (cap - 5)) none (some (.int .i64 (z : Int))) none).run Tryz.prog W = .ok (.slice (some ⟨g, o2, none⟩) z (cap - 5)) W := slice_upto g o2 (n - 5) (cap - 5) z (by omega)
    have hbl : ((l.drop 5).take z).length = z := by simp; omega
    have HT : Hid (∀ W, Below w.heap.size w W → (convert 46 9 (.slice (some ⟨g, o2, none⟩) z (cap - 5))).run Tryz.prog W = .ok (.string ⟨((l.drop 5).take z).toArray⟩) W) := Lib.hid (fun W hbW => by
      refine conv_text W g o2 (cap - 5) z _ hbl (fun j x hx => ?_)
      have hj : j < z := by have := (List.getElem?_eq_some_iff.1 hx).1; omega
      rw [List.getElem?_take, if_pos hj, List.getElem?_drop] at hx
      rcases ho2 with rfl | h5
      · have hcj := HC.out (5 + j) (by omega)
        have hlt : g < w.heap.size := blk_lt hg
        rw [Nat.add_assoc, hbW.cell (p := ⟨g, off + (5 + j), none⟩) hlt, hcj]
        simp [List.getD_eq_getElem?_getD, hx]
      · omega)
    have HBz : Hid (bodyB l = ⟨((l.drop 5).take z).toArray⟩) := Lib.hid (by rw [bodyB, ← HZ.out])
    rw [HBz.out] at HA
    have hcv := HT.out
    generalize (⟨((l.drop 5).take z).toArray⟩ : ByteArray) = body at *
    have hcv0 := hcv w (Below.refl _ _)
    have hcvN : ∀ q, (convert 46 9 (.slice (some ⟨g, o2, none⟩) z (cap - 5))).run Tryz.prog (w.drewN q) = .ok (.string body) (w.drewN q) := fun q => hcv _ (below_drewN (Below.refl _ _) _)
    clear s1 s2 c3 c4 c5 hn HC HN N0 N1 N2 N3 N4 N5 hg hfit ho2 HZ hzs hbl HT hcv HBz
    go_enter Tryz.func38, Tryz.ntmps38
    go_wp2_with fail
    refine (CK.out w).mono ?_
    rintro e W ⟨rfl, rfl⟩
    go_wp2_with fail
    go_quiet (fail)
    go_wp2_with fail
    go_quiet (fail)
    go_wp2_with fail
    go_ret3
    exact ⟨by rw [HA.out, e0.out]; rfl, below_drewN (below_drewN (Below.refl _ _) _) _⟩
end Go.Proofs.YtffnafikegakcaaGreatDoor
