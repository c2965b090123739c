/- The reference's Bytes of a point. -/
import Derived.Test.YtcpdehfmlmmgiaaDoorPrSum
import Derived.Test.YtcpdehfmlmmgiaaDoorConvS
namespace Go.Proofs.YtcpdehfmlmmgiaaDoor
open Go.RowKit Go.Sort
set_option maxRecDepth 100000
set_option linter.unusedSimpArgs false
set_option linter.unusedVariables false

theorem or_bit7 (b : UInt8) (n : Nat) (hb : b.toNat < 128) (hn : n < 2) : bits .or .u8 (b.toNat : Int) ((n : Int) * 128) = ((b.toNat + 128 * n : Nat) : Int) := by
  have e1 : (BitVec.ofInt 8 (b.toNat : Int)).toNat = b.toNat := by rw [BitVec.toNat_ofInt]; omega
  have e2 : (BitVec.ofInt 8 ((n : Int) * 128)).toNat = 2 ^ 7 * n := by rw [BitVec.toNat_ofInt]; omega
  have h := Nat.two_pow_add_eq_or_of_lt (show b.toNat < 2 ^ 7 by omega) n
  show IntKind.u8.wrap (((BitVec.ofInt 8 (b.toNat : Int) ||| BitVec.ofInt 8 ((n : Int) * 128)).toNat : Nat) : Int) = _
  rw [BitVec.toNat_or, e1, e2, Nat.or_comm, ← h, IntKind.wrap_u8]
  omega
/-- The last byte, with one more bit. -/
theorem leF_top (y n : Nat) (hy : y < 57896044618658097711785492504343953926634992332820282019728792003956564819968) (hn : n < 2) : ((leF y 32).getD 31 0).toNat < 128 ∧ (leF y 32).set 31 (UInt8.ofNat (((leF y 32).getD 31 0).toNat + 128 * n)) = leF (y + n * 57896044618658097711785492504343953926634992332820282019728792003956564819968) 32 := by
  have e31 : (256 : Nat) ^ 31 = 452312848583266388373324160190187140051835877600158453279131187530910662656 := by decide
  have hg : ((leF y 32).getD 31 0).toNat = y / 256 ^ 31 := by
    rw [leF_get _ _ _ (by decide), UInt8.toNat_ofNat', e31]
    omega
  constructor
  · rw [hg, e31]; omega
  · rw [hg]
    apply List.ext_getElem (by rw [List.length_set, leF_length, leF_length])
    intro i h1 h2
    rw [leF_length] at h2
    simp only [leF, List.getElem_set, List.getElem_map, List.getElem_range]
    by_cases h31 : 31 = i
    · subst h31
      rw [if_pos rfl]
      apply UInt8.toNat_inj.1
      rw [UInt8.toNat_ofNat', UInt8.toNat_ofNat', e31]
      omega
    · rw [if_neg h31]
      apply UInt8.toNat_inj.1
      rw [UInt8.toNat_ofNat', UInt8.toNat_ofNat']
      have hd : 57896044618658097711785492504343953926634992332820282019728792003956564819968 = 256 ^ i * (256 * (256 ^ (30 - i) * 128)) := by
        rw [show 256 ^ i * (256 * (256 ^ (30 - i) * 128)) = 256 ^ i * 256 * 256 ^ (30 - i) * 128 by simp only [Nat.mul_assoc], ← Nat.pow_succ, ← Nat.pow_add, show i + 1 + (30 - i) = 31 by omega, e31]
      rw [hd, Nat.mul_left_comm n, Nat.add_mul_div_left _ _ (Nat.pow_pos (by decide)), Nat.mul_left_comm n, Nat.add_mul_mod_self_left]

set_option maxHeartbeats 4000000 in
theorem rbytes_any (vp : Value) (p : PtN) (w : World) (hp : p.Ok) (h1 : PtAt w vp p) :
    Calls Tryd.prog 12 #[vp] w fun e w' => e = .returned (.string ⟨(bytP p).toArray⟩) ∧ Below w.heap.size w w' := by
  obtain ⟨px, py, pz, pt, rfl, kx, ky, kz, kt⟩ := h1
  have hb := below_new w (.cells #[px, py, pz, pt] 34)
  have HA := Lib.hid (blk_new w (.cells #[px, py, pz, pt] 34))
  have Hpx := Lib.hid (kx.step hb); have Hpy := Lib.hid (ky.step hb); have Hpz := Lib.hid (kz.step hb)
  have C1 := Lib.hid (fun W g => invRef_any pz p.z W hp.2.2.1 g)
  have C2 := Lib.hid (fun d W g1 g2 => mulRef_any px d p.x (invF p.z) W hp.1 (powF_lt _ _) g1 g2)
  have C3 := Lib.hid (fun d W g1 g2 => mulRef_any py d p.y (invF p.z) W hp.2.1 (powF_lt _ _) g1 g2)
  have hy : mulF p.y (invF p.z) < 57896044618658097711785492504343953926634992332820282019728792003956564819968 := Nat.lt_trans (mulF_lt _ _) (by decide)
  obtain ⟨t1, t2⟩ := leF_top (mulF p.y (invF p.z)) (mulF p.x (invF p.z) % 2) hy (by omega)
  have HT2 : Hid ((leF (mulF p.y (invF p.z)) 32).set 31 (UInt8.ofNat (((leF (mulF p.y (invF p.z)) 32).getD 31 0).toNat + 128 * (mulF p.x (invF p.z) % 2))) = bytP p) := Lib.hid t2
  have C4 := Lib.hid (fun d W g => bytesRef_any d (mulF p.y (invF p.z)) W g)
  have hg0 := digN_get (mulF p.x (invF p.z)) 0 (by decide)
  have hll := leF_length (mulF p.y (invF p.z)) 32
  generalize hbp : bytP p = bp at *
  have HBP := Lib.hid hbp
  generalize invF p.z = i at *
  generalize p.x = nx at *
  generalize p.y = ny at *
  generalize p.z = nz at *
  generalize mulF nx i = mx at *
  generalize mulF ny i = my at *
  clear kx ky kz kt hp t2 hy hbp
  go_enter Tryd.func12, Tryd.ntmps12
  go_upto_region 1 with fail
  generalize (w.alloc _) = W0 at *
  generalize hBB : w.heap.size = B at *
  have HBB := Lib.hid hBB
  clear hBB
  have cz : W0.cell? ⟨B, 2, none⟩ = some pz := by rw [cell_of_row _ _ _ _ _ _ HA.out]; rfl
  go_wp2_with fail
  clear cz
  refine (C1.out W0 Hpz.out).mono ?_
  rintro e W1 ⟨⟨di, rfl, hd⟩, bk⟩
  have Hdi := Lib.hid hd
  replace Hpx := Lib.hid (Hpx.out.step bk); replace Hpy := Lib.hid (Hpy.out.step bk)
  replace hb := hb.trans (bk.mono (Nat.le_of_lt (blk_lt HA.out)))
  replace HA := Lib.hid (blk_below bk (blk_lt HA.out) HA.out)
  clear hd bk C1 Hpz
  have cx : W1.cell? ⟨B, 0, none⟩ = some px := by rw [cell_of_row _ _ _ _ _ _ HA.out]; rfl
  go_wp2_with fail
  clear cx
  refine (C2.out di W1 Hpx.out Hdi.out).mono ?_
  rintro e W2 ⟨⟨dx, rfl, hd⟩, bk⟩
  have Hdx := Lib.hid hd
  replace Hdi := Lib.hid (Hdi.out.step bk); replace Hpy := Lib.hid (Hpy.out.step bk)
  replace hb := hb.trans (bk.mono (Nat.le_of_lt (blk_lt HA.out)))
  replace HA := Lib.hid (blk_below bk (blk_lt HA.out) HA.out)
  clear hd bk C2 Hpx
  have cy : W2.cell? ⟨B, 1, none⟩ = some py := by rw [cell_of_row _ _ _ _ _ _ HA.out]; rfl
  go_wp2_with fail
  clear cy
  refine (C3.out di W2 Hpy.out Hdi.out).mono ?_
  rintro e W3 ⟨⟨dy, rfl, hd⟩, bk⟩
  have Hdy := Lib.hid hd
  replace Hdx := Lib.hid (Hdx.out.step bk)
  replace hb := hb.trans (bk.mono (Nat.le_of_lt (blk_lt HA.out)))
  replace HA := Lib.hid (blk_below bk (blk_lt HA.out) HA.out)
  clear hd bk C3 Hpy Hdi
  go_wp2_with fail
  refine (C4.out dy W3 Hdy.out).mono ?_
  rintro e W4 ⟨rfl, bk⟩
  replace Hdx := Lib.hid (Hdx.out.step bk)
  replace hb := hb.trans (bk.mono (Nat.le_of_lt (blk_lt HA.out)))
  have hB4 : B ≤ W4.heap.size := Nat.le_trans (Nat.le_of_lt (blk_lt HA.out)) bk.size
  clear bk C4 Hdy HA
  obtain ⟨ca, hcv, howa, hbo⟩ := conv_bytes ⟨(leF my 32).toArray⟩ W4
  have hsz : (⟨(leF my 32).toArray⟩ : ByteArray).size = 32 := hll
  have hdl : (⟨(leF my 32).toArray⟩ : ByteArray).data.toList = leF my 32 := rfl
  rw [hsz] at hcv
  rw [hdl] at howa
  replace Hdx := Lib.hid (Hdx.out.step hbo)
  replace hb := hb.trans (hbo.mono hB4)
  have hB5 := Nat.le_trans hB4 hbo.size
  generalize (⟨(leF my 32).toArray⟩ : ByteArray) = sb at *
  generalize Lib.bytesWorld W4 5 sb = W5 at *
  generalize W4.heap.size = g at *
  obtain ⟨b31, hb31⟩ : ∃ b, b = (leF my 32).getD 31 0 := ⟨_, rfl⟩
  rw [← hb31] at t1 HT2
  have HOw := Lib.hid howa
  have HLL := Lib.hid hll
  obtain ⟨Dx, cx, rfl, hcx⟩ := Hdx.out
  have c0 := hcx 0 (by decide)
  rw [hg0, Nat.pow_zero, Nat.div_one] at c0
  obtain ⟨c31, f31⟩ := own_byte howa 31 (by rw [hll]; decide)
  rw [← hb31] at c31
  have hor := or_bit7 b31 (mx % 2) t1 (by omega)
  have hnb : (UInt8.ofNat (b31.toNat + 128 * (mx % 2))).toNat = b31.toNat + 128 * (mx % 2) := by rw [UInt8.toNat_ofNat']; omega
  rw [← hnb] at hor
  generalize hnn : UInt8.ofNat (b31.toNat + 128 * (mx % 2)) = nb at *
  rw [show ((mx % 2 : Nat) : Int) = (mx : Int) % 2 by omega] at hor
  have HB31 := Lib.hid hb31
  clear hb31
  have HNB := Lib.hid hnn
  clear hcx hg0 howa hbo hsz hdl hnb t1 Hdx hnn
  go_wp2_with fail
  clear hcv
  have ka := cell_regrown c31; have kb := cell_regrown c0
  refine wp_region_reads_tail 12 (by kernel_rfl) (by kernel_rfl) ?_
  simp only [List.take_succ_cons, List.take_zero, List.drop_succ_cons, List.drop_zero]
  repeat (first | go_big_quiet_step (fail) | quiet_step (fail))
  refine wpQuiet_nil ?_
  intro W6 bk
  replace HOw := Lib.hid (HOw.out.stays bk)
  have hput := own_byte_put HOw.out 31 (by rw [HLL.out]; decide) nb
  rw [HT2.out] at hput
  obtain ⟨c2, f2⟩ := own_byte HOw.out 31 (by rw [HLL.out]; decide)
  rw [← HB31.out] at c2
  have hbl : (bytP p).length = 32 := bytP_length p
  rw [HBP.out] at hbl
  have hgB : B ≤ g := hB4
  replace hb := hb.trans (bk.mono hB5)
  have KW := Lib.hid hput
  have hb2 : Below B w (W6.setCell ⟨g, 31, none⟩ (.int .u8 (nb.toNat : Int))) := hb.setCell (by show B ≤ g; omega) _
  have hcv := conv_text_own KW.out hbl ca
  clear hput bk ka kb hor HOw KW
  go_wp2_with fail
  go_ret
  exact ⟨by first | rfl | (rw [HBP.out]; rfl), by rw [HBB.out]; exact hb2⟩
end Go.Proofs.YtcpdehfmlmmgiaaDoor
