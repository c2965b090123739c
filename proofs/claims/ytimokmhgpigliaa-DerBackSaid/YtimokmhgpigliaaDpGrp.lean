/- Package der: a number in groups of seven bits: groupsOf. -/
import Derived.Test.YtimokmhgpigliaaDpRev
namespace Go.Proofs.Ytimokmhgpigliaa
open Go.RowKit Go.Sort
set_option maxRecDepth 100000
set_option linter.unusedSimpArgs false
set_option linter.unusedVariables false

theorem and127 (n : Nat) (hn : n < 9223372036854775808) : bits .and .i64 (n : Int) 127 = (n : Int) % 128 := by
  have e1 : (BitVec.ofInt 64 (n : Int)).toNat = n := by rw [BitVec.toNat_ofInt]; omega
  have e2 : (BitVec.ofInt 64 127).toNat = 127 := by decide
  have h := Nat.and_two_pow_sub_one_eq_mod n 7
  show IntKind.i64.wrap (((BitVec.ofInt 64 (n : Int) &&& BitVec.ofInt 64 127).toNat : Nat) : Int) = _
  rw [BitVec.toNat_and, e1, e2, show (127 : Nat) = 2 ^ 7 - 1 from rfl, h, IntKind.wrap_i64]
  omega
theorem or128f : ∀ b : Fin 128, bits .or .u8 ((b.val : Nat) : Int) 128 = 128 + ((b.val : Nat) : Int) := by decide +kernel
theorem or128 (b : Int) (h0 : 0 ≤ b) (h1 : b < 128) : bits .or .u8 b 128 = 128 + b := by
  have := or128f ⟨b.toNat, by omega⟩
  simp only at this
  rwa [Int.toNat_of_nonneg h0] at this
set_option maxHeartbeats 4000000 in
theorem groupsOf_any (n : Nat) (w : World) (hn : n < 9223372036854775808) :
    Calls Try.prog 42 #[.int .i64 (n : Int)] w fun e w' => e = .returned (.string ⟨(grL n).toArray⟩) ∧ Below w.heap.size w w' := by
  obtain ⟨i0, hi, hz0, hz1, hz2⟩ := info_parts info_u8
  have hb := Below.refl w.heap.size w
  have e8 : (128 : Nat) ^ 9 = 9223372036854775808 := by decide
  have ha := and127 n hn
  have wt : IntKind.u8.wrap ((n : Int) % 128) = (n : Int) % 128 := by rw [IntKind.wrap_u8]; omega
  have HO0 := Lib.hid (show (w.alloc (.cells #[.int .u8 ((n : Int) % 128)] 5)).ownsRow w.heap.size 5 1 (.slice (some ⟨w.heap.size, 0, none⟩) 1 1) 1 [.int .u8 ((n : Int) % 128)] from
    ⟨rfl, .inr ⟨w.heap.size, 1, _, rfl, Nat.le_refl _, blk_new w _, by omega, by unfold maxLen; omega, rfl, rfl⟩⟩)
  have hb1 : Below w.heap.size w (w.alloc (.cells #[.int .u8 ((n : Int) % 128)] 5)) := hb.alloc hb.size _
  have hsz1 : w.heap.size ≤ (w.alloc (.cells #[.int .u8 ((n : Int) % 128)] 5)).heap.size := hb1.size
  have HOw : Hid (Own (w.alloc (.cells #[.int .u8 ((n : Int) % 128)] 5)) w.heap.size (.slice (some ⟨w.heap.size, 0, none⟩) 1 1) (Lib.byteCells [UInt8.ofNat (n % 128)])) := Lib.hid (by
    rw [byteC _ (by omega), show ((n % 128 : Nat) : Int) = (n : Int) % 128 by simp]
    exact (own_of_row HO0.out).1)
  have HG : Hid (hiL 9 (n / 128) ++ [UInt8.ofNat (n % 128)] = grL n) := Lib.hid rfl
  clear HO0
  go_enter Try.func42, Try.ntmps42
  go_wp2_with fail
  generalize (w.alloc _) = W0 at *
  generalize hBB : w.heap.size = B at *
  have HBB := Lib.hid hBB
  clear hBB
  obtain ⟨G, hGG⟩ : ∃ G, grL n = G := ⟨_, rfl⟩
  rw [hGG] at HG
  have HGG := Lib.hid hGG
  clear hGG
  go_loopw [0, 3] (fun nv ov wr => ∃ (m f : Nat) (ao : Option Addr) (cp k : Nat) (l : List UInt8), m ≤ n ∧ l.length = k ∧ k + f ≤ 10 ∧ m < 128 ^ f ∧ Hid (hiL f m ++ l.reverse = G) ∧ nv = .int .i64 (m : Int) ∧ ov = .slice ao k cp ∧ Own wr B (.slice ao k cp) (Lib.byteCells l) ∧ 1 ≤ k ∧ Below B w wr ∧ B ≤ wr.heap.size) (fun nv _ _ => (intOf nv).toNat)
  case atStart => exact ⟨n / 128, 9, _, 1, 1, [UInt8.ofNat (n % 128)], by omega, rfl, by omega, by omega, HG, by simp, rfl, HOw.out, by omega, hb1, hsz1⟩
  case round =>
    clear hb hb1 HOw HG hsz1 ha wt
    obtain ⟨m, f, ao, cp, k, l, hmn, hl, hkf, hm, HG, rfl, rfl, hown, hk1, hb, hB⟩ := hrel
    have HO := Lib.hid hown
    clear hown
    have HL := Lib.hid (show (Lib.byteCells l).length = k by rw [Lib.byteCells_length]; exact hl)
    by_cases h0 : 0 < m
    · have hd : decide ((0 : Int) < (m : Int)) = true := by simp; omega
      obtain ⟨f', rfl, e1, e2⟩ := group_step m h0 f hm
      have ha := and127 m (by omega)
      have hr0 : (0 : Int) ≤ (m : Int) % 128 := by omega
      have hr1 : (m : Int) % 128 < 128 := by omega
      have wt : IntKind.u8.wrap ((m : Int) % 128) = (m : Int) % 128 := by rw [IntKind.wrap_u8]; omega
      have hor := or128 _ hr0 hr1
      have HG2 : Hid (hiL f' (m / 128) ++ (l ++ [UInt8.ofNat (128 + m % 128)]).reverse = G) := Lib.hid (by rw [← HG.out, e1, List.append_assoc, List.reverse_append]; rfl)
      have HC : Hid (Lib.byteCells [UInt8.ofNat (128 + m % 128)] = [.int .u8 (128 + (m : Int) % 128)]) := Lib.hid (by rw [byteC _ (by omega)]; simp)
      clear e1 HG
      generalize UInt8.ofNat (128 + m % 128) = bb at *
      go_wp2_with (at_builtin; refine wpList_append_sl rfl (.tmp 14) (.tmp 19) 46 rfl B 5 i0 (.int .u8 0) 1 Try.underlying46 hi hz0 hz1 hz2 rfl ao k cp _ rfl (HO.out.alloc _) HL.out ⟨_, 0, none⟩ 1 1 [.int .u8 _] rfl rfl (cell_one_new _ _ _) ?p2 ?p3 ?p4 ?p5 ?_)
      case p2 => intro u hu; simp at hu; subst hu; rfl
      case p3 => omega
      case p4 => omega
      case p5 => simp; omega
      intro ao7 cp7 W7 hown7 hgrow7
      have hb7 : Below B wr W7 := below_append ((Below.refl B wr).alloc hB _) (by simp; omega) (HO.out.alloc _) hgrow7
      have hB7 : B ≤ W7.heap.size := by have := hgrow7.size; simp at this; omega
      have hown8 : Own W7 B (.slice ao7 (k + 1) cp7) (Lib.byteCells (l ++ [bb])) := by
        rw [Lib.byteCells_append, HC.out]
        exact hown7
      have hb8 := hb.trans hb7
      clear hown7 hgrow7 HO HC HL hb hb7
      go_wp2_with fail
      go_roundw
      case rel => exact ⟨m / 128, f', ao7, cp7, k + 1, _, by omega, by simp; omega, by omega, e2, HG2, by go_num, rfl, hown8, by omega, hb8, hB7⟩
      case measure => simp [intOf]; omega
    · obtain rfl : m = 0 := by omega
      have hd : decide ((0 : Int) < ((0 : Nat) : Int)) = false := by simp
      obtain ⟨g, cq, e, hoG, hglt⟩ := HO.out.some (by rw [HL.out]; omega)
      rw [HL.out] at e
      cases e
      have hBg := hoG.base
      have CR := Lib.hid (reverse_any g cp k B l wr hl (by omega) hoG hglt)
      have HT : Hid (l.reverse = G) := Lib.hid (by rw [← HG.out, hiL_zero]; rfl)
      have HLR := Lib.hid (show l.reverse.length = k by rw [List.length_reverse]; exact hl)
      clear HG HO HL hoG
      go_wp2_with fail
      refine CR.out.mono ?_
      rintro e W1 ⟨rfl, ho1, bk, _⟩
      replace hb := hb.trans (bk.mono hBg)
      have ht := conv_text_own ho1 HLR.out cp
      obtain ⟨L, hL⟩ : ∃ L, (⟨l.reverse.toArray⟩ : ByteArray) = L := ⟨_, rfl⟩
      have HLL : Hid (L = ⟨(grL n).toArray⟩) := Lib.hid (by rw [← hL, HGG.out, HT.out])
      rw [hL] at ht
      clear hL ho1 bk CR
      go_wp2_with fail
      go_ret
      exact ⟨by rw [HLL.out]; rfl, by rw [HBB.out]; exact hb⟩
theorem groups_any (z : Int) (w : World) (h0 : 0 ≤ z) (h1 : z ≤ 9223372036854775807) :
    Calls Try.prog 42 #[.int .i64 z] w fun e w' => e = .returned (.string ⟨(grL z.toNat).toArray⟩) ∧ Below w.heap.size w w' := by
  obtain ⟨n, rfl⟩ : ∃ n : Nat, z = (n : Int) := ⟨z.toNat, by omega⟩
  exact groupsOf_any n w (by omega)
end Go.Proofs.Ytimokmhgpigliaa
