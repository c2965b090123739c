/- A number in groups: the reference's group. -/
import Derived.Test.YtimokmhgpigliaaDrGrp
import Derived.Test.YtimokmhgpigliaaDrWr
import Derived.Test.YtimokmhgpigliaaDrNums
namespace Go.Proofs.Ytimokmhgpigliaa
open Go.RowKit Go.Sort
set_option maxRecDepth 100000
set_option linter.unusedSimpArgs false
set_option linter.unusedVariables false

theorem byteC (k : Nat) (h : k < 256) : Lib.byteCells [UInt8.ofNat k] = [.int .u8 (k : Int)] := by
  simp only [Lib.byteCells, List.map_cons, List.map_nil, cell_byte k h]
theorem group_step (m : Nat) (h : 0 < m) : ∀ f, m < 128 ^ f → ∃ f', f = f' + 1 ∧ hiL f m = hiL f' (m / 128) ++ [UInt8.ofNat (128 + m % 128)] ∧ m / 128 < 128 ^ f'
  | 0, hm => by simp at hm; omega
  | f + 1, hm => ⟨f, rfl, by rw [hiL, if_neg (by omega)], by rw [Nat.pow_succ] at hm; omega⟩
set_option maxHeartbeats 4000000 in
theorem rgroup_any (n : Nat) (w : World) (hn : n < 9223372036854775808) :
    Calls Try.prog 43 #[.int .i64 (n : Int)] w fun e w' => e = .returned (.string ⟨(grL n).toArray⟩) ∧ Below w.heap.size w w' := by
  obtain ⟨i0, hi, hz0, hz1, hz2⟩ := info_parts info_u8
  have hb := Below.refl w.heap.size w
  have e8 : (128 : Nat) ^ 9 = 9223372036854775808 := by decide
  have HO0 := Lib.hid (show (w.alloc (.cells #[.int .u8 ((n : Int) % 128)] 5)).ownsRow w.heap.size 5 1 (.slice (some ⟨w.heap.size, 0, none⟩) 1 1) 1 [.int .u8 ((n : Int) % 128)] from
    ⟨rfl, .inr ⟨w.heap.size, 1, _, rfl, Nat.le_refl _, blk_new w _, by omega, by unfold maxLen; omega, rfl, rfl⟩⟩)
  have hb1 : Below w.heap.size w (w.alloc (.cells #[.int .u8 ((n : Int) % 128)] 5)) := hb.alloc hb.size _
  have hsz1 : w.heap.size ≤ (w.alloc (.cells #[.int .u8 ((n : Int) % 128)] 5)).heap.size := hb1.size
  have HOw : Hid (Own (w.alloc (.cells #[.int .u8 ((n : Int) % 128)] 5)) w.heap.size (.slice (some ⟨w.heap.size, 0, none⟩) 1 1) (Lib.byteCells [UInt8.ofNat (n % 128)])) := Lib.hid (by
    rw [byteC _ (by omega), show ((n % 128 : Nat) : Int) = (n : Int) % 128 by simp]
    exact (own_of_row HO0.out).1)
  have HG : Hid (hiL 9 (n / 128) ++ [UInt8.ofNat (n % 128)] = grL n) := Lib.hid rfl
  clear HO0
  go_enter Try.func43, Try.ntmps43
  go_wp2_with fail
  generalize (w.alloc _) = W0 at *
  generalize hBB : w.heap.size = B at *
  have HBB := Lib.hid hBB
  clear hBB
  obtain ⟨G, hGG⟩ : ∃ G, grL n = G := ⟨_, rfl⟩
  rw [hGG] at HG
  have HGG := Lib.hid hGG
  clear hGG
  go_loopw [0, 3, 4] (fun nv ov mv wr => ∃ (m f : Nat) (ao : Option Addr) (cp k : Nat) (l : List UInt8), m ≤ n ∧ l.length = k ∧ k + f ≤ 10 ∧ m < 128 ^ f ∧ Hid (hiL f m ++ l = G) ∧ nv = .int .i64 (m : Int) ∧ ov = .slice ao k cp ∧ Own wr B (.slice ao k cp) (Lib.byteCells l) ∧ 1 ≤ k ∧ Below B w wr ∧ B ≤ wr.heap.size) (fun nv _ _ _ => (intOf nv).toNat)
  case atStart => exact ⟨n / 128, 9, _, 1, 1, [UInt8.ofNat (n % 128)], by omega, rfl, by omega, by omega, HG, by simp, rfl, HOw.out, by omega, hb1, hsz1⟩
  case round =>
    clear hb hb1 HOw HG hsz1
    obtain ⟨m, f, ao, cp, k, l, hmn, hl, hkf, hm, HG, rfl, rfl, hown, hk1, hb, hB⟩ := hrel
    have HO := Lib.hid hown
    clear hown
    have HL := Lib.hid (show (Lib.byteCells l).length = k by rw [Lib.byteCells_length]; exact hl)
    by_cases h0 : 0 < m
    · have hd : decide ((0 : Int) < (m : Int)) = true := by simp; omega
      obtain ⟨f', rfl, e1, e2⟩ := group_step m h0 f hm
      have hw : IntKind.u8.wrap (128 + (m : Int) % 128) = 128 + (m : Int) % 128 := by rw [IntKind.wrap_u8]; omega
      have HG2 : Hid (hiL f' (m / 128) ++ (UInt8.ofNat (128 + m % 128) :: l) = G) := Lib.hid (by rw [← HG.out, e1, List.append_assoc]; rfl)
      have HC : Hid (Lib.byteCells [UInt8.ofNat (128 + m % 128)] = [.int .u8 (128 + (m : Int) % 128)]) := Lib.hid (by rw [byteC _ (by omega)]; simp)
      clear e1 HG
      generalize UInt8.ofNat (128 + m % 128) = bb at *
      go_wp2_with (at_builtin; refine wpList_append_sl rfl (.tmp 13) (.tmp 18) 46 rfl B 5 i0 (.int .u8 0) 1 Try.underlying46 hi hz0 hz1 hz2 rfl none 0 0 [] rfl (Own.nil _ _) rfl ⟨_, 0, none⟩ 1 1 [.int .u8 _] rfl rfl (cell_one_new _ _ _) ?p2 ?p3 ?p4 ?p5 ?_)
      case p2 => intro u hu; simp at hu; subst hu; rfl
      case p3 => omega
      case p4 => omega
      case p5 => simp; omega
      intro ao7 cp7 W7 hown7 hgrow7
      have hb6 : Below wr.heap.size wr W7 := ((Below.refl wr.heap.size wr).alloc (Nat.le_refl _) _).grown hgrow7 (by simp) (fun k hk => by simp [Value.ownBlock] at hk)
      have hown8 : Own W7 B (.slice ao7 1 cp7) (Lib.byteCells [bb]) := by rw [HC.out]; exact hown7
      have hb7 := hb.trans (hb6.mono hB)
      have hB7 : B ≤ W7.heap.size := Nat.le_trans hB hb6.size
      have HO7 := Lib.hid (HO.out.below hb6)
      have HM := Lib.hid hown8
      clear hown7 hown8 hgrow7 HO hb
      obtain ⟨g, cq, e, hoG, _⟩ := HO7.out.some (by rw [HL.out]; omega)
      rw [HL.out] at e
      cases e
      have HGc := Lib.hid (show ∀ j u, (Lib.byteCells l)[j]? = some u → W7.cell? ((⟨g, 0, none⟩ : Addr).add j) = some u from fun j u hj => by
        have hadd : (⟨g, 0, none⟩ : Addr).add j = ⟨g, j, none⟩ := by unfold Addr.add; split <;> simp_all
        rw [hadd]
        exact hoG.cells j u hj)
      clear hoG HO7
      go_wp2_with (at_builtin; refine wpList_append_sl rfl (.tmp 20) (.tmp 21) 46 rfl B 5 i0 (.int .u8 0) 1 Try.underlying46 hi hz0 hz1 hz2 rfl ao7 1 cp7 (Lib.byteCells [bb]) rfl HM.out rfl ⟨g, 0, none⟩ k cp (Lib.byteCells l) rfl HL.out HGc.out ?q2 ?q3 ?q4 hB7 ?_)
      case q2 => intro u hu; simp [Lib.byteCells] at hu; obtain ⟨x, _, rfl⟩ := hu; rfl
      case q3 => omega
      case q4 => omega
      intro ao8 cp8 W8 hown9 hgrow8
      have hb8 : Below B w W8 := below_append hb7 hB7 HM.out hgrow8
      have hB8 : B ≤ W8.heap.size := Nat.le_trans hB7 hgrow8.size
      have hown10 : Own W8 B (.slice ao8 (1 + k) cp8) (Lib.byteCells (bb :: l)) := by
        rw [show bb :: l = [bb] ++ l from rfl, Lib.byteCells_append]
        exact hown9
      clear hown9 hgrow8 HM HGc HL HC hb7
      go_wp2_with fail
      go_roundw
      case rel => exact ⟨m / 128, f', ao8, cp8, 1 + k, _, by omega, by simp; omega, by omega, e2, HG2, by go_num, rfl, hown10, by omega, hb8, hB8⟩
      case measure => simp [intOf]; omega
    · obtain rfl : m = 0 := by omega
      have hd : decide ((0 : Int) < ((0 : Nat) : Int)) = false := by simp
      obtain ⟨g, cq, e, hoG, _⟩ := HO.out.some (by rw [HL.out]; omega)
      rw [HL.out] at e
      cases e
      have ht := conv_text_own hoG hl cp
      have HT : Hid (l = G) := Lib.hid (by rw [← HG.out, hiL_zero]; rfl)
      obtain ⟨L, hL⟩ : ∃ L, (⟨l.toArray⟩ : ByteArray) = L := ⟨_, rfl⟩
      have HLL : Hid (L = ⟨(grL n).toArray⟩) := Lib.hid (by rw [← hL, HGG.out, HT.out])
      rw [hL] at ht
      clear hL
      clear hoG HO HL HG HT
      go_wp2_with fail
      go_ret
      exact ⟨by first | (rw [HLL.out]; done) | (rw [HLL.out]; rfl), by rw [HBB.out]; exact hb⟩
end Go.Proofs.Ytimokmhgpigliaa
