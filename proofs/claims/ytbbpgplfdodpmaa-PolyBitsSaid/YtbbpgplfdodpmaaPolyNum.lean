/- The program's number of seventeen bytes. -/
import Derived.Test.YtbbpgplfdodpmaaPolyEnc
namespace Go.Proofs.Ytbbpgplfdodpmaa
open Go.RowKit Go.Sort
set_option maxRecDepth 100000
set_option linter.unusedSimpArgs false
set_option linter.unusedVariables false

def ezeros : Array Value := bcells (List.replicate 17 0)
theorem infoE : (Try.prog.info? 45).map (fun i => (i.zero, i.size)) = some (some (.agg ezeros), 17) := by kernel_rfl
theorem sizeE (l : List UInt8) (h : l.length = 17) : (Try.prog.info? 45).map (·.size) = some (bcells l).size := by rw [bcells_size, h]; exact (zero_of_info infoE).2
/-- The limbs while they are laid. -/
def numP (n i : Nat) : List Int := (numL n).take i ++ List.replicate (5 - i) 0
theorem numP_length (n i : Nat) (h : i ≤ 5) : (numP n i).length = 5 := by simp [numP, numL_length]; omega
theorem numP_get (n i : Nat) (h : i < 5) : (numP n i).getD i 0 = 0 := by
  have hl : ((numL n).take i).length = i := by rw [List.length_take, numL_length]; omega
  rw [numP, List.getD_eq_getElem?_getD, List.getElem?_append_right (by omega), hl, Nat.sub_self, show 5 - i = (5 - (i + 1)) + 1 by omega, List.replicate_succ]; rfl
theorem numP_succ (n i : Nat) (h : i < 5) : (numP n i).set i ((n / 67108864 ^ i % 67108864 : Nat) : Int) = numP n (i + 1) := by
  have hl : ((numL n).take i).length = i := by rw [List.length_take, numL_length]; omega
  rw [numP, List.set_append, if_neg (by omega), hl, Nat.sub_self, show 5 - i = (5 - (i + 1)) + 1 by omega, List.replicate_succ, List.set_cons_zero, numP, List.take_succ_eq_append_getElem (by rw [numL_length]; omega)]
  simp [numL]
theorem numP_full (n : Nat) : numP n 5 = numL n := by rw [numP, List.take_of_length_le (by rw [numL_length]; omega)]; simp
/-- One limb while its bytes are joined. -/
def limP (n i k : Nat) : Nat := n / 256 ^ (26 * i / 8) % 256 ^ k
theorem limP_lt (n i k : Nat) : limP n i k < 256 ^ k := Nat.mod_lt _ (Nat.pow_pos (by omega))
theorem limP_succ (l : List UInt8) (i k : Nat) (h : 26 * i / 8 + k < l.length) : limP (leN l) i (k + 1) = limP (leN l) i k + (l.getD (26 * i / 8 + k) 0).toNat * 256 ^ k := by
  have hb := leN_byte l (26 * i / 8 + k) h
  rw [Nat.pow_add, ← Nat.div_div_eq_div_mul] at hb
  have e : l.getD (26 * i / 8 + k) 0 = l[26 * i / 8 + k] := by simp [h]
  rw [e, ← hb, limP, limP, Nat.pow_succ, Nat.mod_mul, Nat.mul_comm (256 ^ k)]
theorem limP_end (n i : Nat) (h : i < 5) : limP n i 4 / 2 ^ (26 * i % 8) % 67108864 = n / 67108864 ^ i % 67108864 := by
  unfold limP
  rcases (by omega : i = 0 ∨ i = 1 ∨ i = 2 ∨ i = 3 ∨ i = 4) with rfl | rfl | rfl | rfl | rfl <;> simp <;> omega

set_option maxHeartbeats 2000000 in
theorem encNum_any (l : List UInt8) (w : World) (hl : l.length = 17) :
    Calls Try.prog 20 #[.agg (bcells l)] w fun e w' => e = .returned (.agg (lmc (numL (leN l)))) ∧ Below w.heap.size w w' := by
  obtain ⟨hz, hi⟩ := zero_of_info infoN
  have HL := Lib.hid hl
  have HE0 := Lib.hid (blk_old (o := .cells zeros5 33) (blk_old (o := .cells zeros5 33) (blk_new w (.cells (bcells l) 45))))
  have HR0 := Lib.hid (blk_old (o := .cells zeros5 33) (blk_new2 w (.cells (bcells l) 45) (.cells zeros5 33)))
  have HO0 := Lib.hid (blk_new3 w (.cells (bcells l) 45) (.cells zeros5 33) (.cells zeros5 33))
  have hb0 := below_new3 w (.cells (bcells l) 45) (.cells zeros5 33) (.cells zeros5 33)
  obtain ⟨n, hn⟩ : ∃ n, n = leN l := ⟨_, rfl⟩
  have HLS := Lib.hid (fun i k (h : 26 * i / 8 + k < 17) => limP_succ l i k (by omega))
  rw [← hn] at HLS ⊢
  clear hi hl hn
  go_enter Try.func20, Try.ntmps20
  go_wp2_with fail
  clear hz
  generalize (((w.alloc _).alloc _).alloc _) = W0 at *
  generalize hBB : w.heap.size = B at *
  have HBB := Lib.hid hBB
  clear hBB
  go_loopw [7] (fun iv wr => ∃ i : Nat, i ≤ 5 ∧ iv = .int .i64 (i : Int) ∧ wr.heap[B]? = some (.cells (bcells l) 45) ∧ wr.heap[B + 1]? = some (.cells zeros5 33) ∧ wr.heap[B + 1 + 1]? = some (.cells (lmc (numP n i)) 33) ∧ Below B w wr) (fun iv _ => 5 - (intOf iv).toNat)
  case atStart => exact ⟨0, by omega, rfl, HE0.out, HR0.out, HO0.out, hb0⟩
  case round =>
    clear HE0 HR0 HO0 hb0
    obtain ⟨i, hi, rfl, he, hr, ho, hb⟩ := hrel
    have HE := Lib.hid he; have HR := Lib.hid hr; have HO := Lib.hid ho
    clear he hr ho
    by_cases hlt : i < 5
    · have hd : decide ((i : Int) < 5) = true := by simp; omega
      have HPL := Lib.hid (numP_length n i hi)
      have HPG := Lib.hid (numP_get n i hlt)
      have HPS := Lib.hid (numP_succ n i hlt)
      have HPE := Lib.hid (limP_end n i hlt)
      have HO1 := Lib.hid (show wr.heap[B + 1 + 1]? = some (.cells (lmc ((numP n i).set i ((limP n i 0 : Nat) : Int))) 33) from by
        rw [show limP n i 0 = 0 by simp [limP, Nat.mod_one]]
        have e : (numP n i).set i ((0 : Nat) : Int) = numP n i := by
          have h5 := HPL.out
          have hg := HPG.out
          apply List.ext_getElem (by simp)
          intro j h1 h2
          rw [List.getElem_set]
          split
          · next h => subst h; rw [List.getD_eq_getElem?_getD, List.getElem?_eq_getElem h2, Option.getD_some] at hg; rw [hg]; rfl
          · rfl
        rw [e]; exact HO.out)
      clear HO HPG
      generalize numP n i = pl at *
      go_wp2_with fail
      go_loopw [12] (fun kv wr => ∃ k : Nat, k ≤ 4 ∧ kv = .int .i64 (k : Int) ∧ wr.heap[B]? = some (.cells (bcells l) 45) ∧ wr.heap[B + 1]? = some (.cells zeros5 33) ∧ wr.heap[B + 1 + 1]? = some (.cells (lmc (pl.set i ((limP n i k : Nat) : Int))) 33) ∧ Below B w wr) (fun kv _ => 4 - (intOf kv).toNat)
      case atStart => exact ⟨0, by omega, rfl, HE.out, HR.out, HO1.out, hb⟩
      case round =>
        clear HE HR HO1 hb
        obtain ⟨k, hk, rfl, he, hr, ho, hb⟩ := hrel
        have HE := Lib.hid he; have HR := Lib.hid hr; have HO := Lib.hid ho
        clear he hr ho
        by_cases hklt : k < 4
        · have hdk : decide ((k : Int) < 4) = true := by simp; omega
          have h17 : 26 * i / 8 + k < 17 := by omega
          have hs := HLS.out i k h17
          have hx1 := limP_lt n i k
          have hy1 := (l.getD (26 * i / 8 + k) 0).toNat_lt
          have cy : wr.cell? ⟨B, 26 * i / 8 + k, none⟩ = some (.int .u8 ((l.getD (26 * i / 8 + k) 0).toNat : Int)) := by rw [cell_of_row wr _ _ _ _ _ HE.out]; exact bcells_get _ _ _ (by simp [List.getD_eq_getElem?_getD, HL.out, h17])
          have cx := lmc_cell HO.out i (by rw [List.length_set, HPL.out]; omega)
          rw [show (pl.set i ((limP n i k : Nat) : Int)).getD i 0 = ((limP n i k : Nat) : Int) by simp [List.getD_eq_getElem?_getD, HPL.out, hlt]] at cx
          have HXI : Hid (pl.set i ((limP n i k : Nat) : Int) = pl.set i ((limP n i k : Nat) : Int)) := Lib.hid rfl
          generalize hxx : limP n i k = x at *
          generalize (l.getD (26 * i / 8 + k) 0).toNat = y at *
          have e8 : (256 : Nat) ^ k = 2 ^ (8 * k) := by rw [show 256 = 2 ^ 8 from rfl, ← Nat.pow_mul]
          rw [e8] at hs hx1
          have hp8 : 2 ^ (8 * k) ≤ 2 ^ 24 := Nat.pow_le_pow_right (by omega) (by omega)
          have hyp : y * 2 ^ (8 * k) ≤ 255 * 2 ^ 24 := Nat.mul_le_mul (by omega) hp8
          have ec : ((y * 2 ^ (8 * k) : Nat) : Int) = (y : Int) * 2 ^ (8 * k) := by simp
          have hx2 : (x : Int) < 2 ^ (8 * k) := by
            have e2 : ((2 : Int) ^ (8 * k)) = ((2 ^ (8 * k) : Nat) : Int) := by simp
            rw [e2]; omega
          have hw1 : IntKind.u64.wrap (y : Int) = (y : Int) := by rw [IntKind.wrap_u64]; omega
          have hw2 : IntKind.u64.wrap ((y : Int) * 2 ^ (8 * k)) = (y : Int) * 2 ^ (8 * k) := by rw [IntKind.wrap_u64, ← ec]; omega
          have hor := u64_or_add (x : Int) (y : Int) (8 * k) (by omega) hx2 (by omega) (by rw [← ec]; omega)
          have hsi : (x : Int) + (y : Int) * 2 ^ (8 * k) = ((limP n i (k + 1) : Nat) : Int) := by rw [hs, ← ec]; omega
          rw [hsi] at hor
          obtain ⟨z, hz⟩ : ∃ z, z = limP n i (k + 1) := ⟨_, rfl⟩
          rw [← hz] at hor hs
          have HZ : Hid (limP n i (k + 1) = z) := Lib.hid hz.symm
          clear hz
          have hof : (26 * (i : Int) / 8 + (k : Int)).toNat = 26 * i / 8 + k := by omega
          have hsh : (8 * (k : Int)).toNat = 8 * k := by omega
          clear hs hx1 hy1 hp8 hyp ec hx2 hxx e8 hsi
          go_wp2_with fail
          have ka := cell_regrown cx; have kb := cell_regrown cy
          refine wp_region_reads_tail 15 (by kernel_rfl) (by kernel_rfl) ?_
          simp only [List.take_succ_cons, List.take_zero, List.drop_succ_cons, List.drop_zero]
          repeat (first | go_big_quiet_step (fail) | quiet_step (fail))
          refine wpQuiet_nil ?_
          intro W1 hb1
          have hlw := blk_lt HO.out
          have hE1 := blk_below hb1 (by omega) HE.out
          have hR1 := blk_below hb1 (by omega) HR.out
          have hO1 := blk_below hb1 hlw HO.out
          have fx := frozen_of_row W1 (B + 1 + 1) i _ _ hO1
          have cu := lmc_cell hO1 i (by rw [List.length_set, HPL.out]; omega)
          have r1 := lmc_heap_set hO1 i (z : Int)
          rw [List.set_set] at r1
          generalize (pl.set i (x : Int)).getD i 0 = old at *
          have HO2 := Lib.hid r1
          have HE2 := Lib.hid (show (W1.setCell ⟨B + 1 + 1, i, none⟩ (.int .u64 (z : Int))).heap[B]? = some (.cells (bcells l) 45) from by rw [heap_setCell_other _ _ _ _ (by simp; omega)]; exact hE1)
          have HR2 := Lib.hid (show (W1.setCell ⟨B + 1 + 1, i, none⟩ (.int .u64 (z : Int))).heap[B + 1]? = some (.cells zeros5 33) from by rw [heap_setCell_other _ _ _ _ (by simp)]; exact hR1)
          have hb2 : Below B w (W1.setCell ⟨B + 1 + 1, i, none⟩ (.int .u64 (z : Int))) := (hb.trans (hb1.mono (by omega))).setCell (by simp; omega) _
          clear r1 hb HR HE HO ka kb cx cy hE1 hR1 hO1 hlw hb1 HXI
          go_wp2_with fail
          go_roundw
          case rel => exact ⟨k + 1, by omega, by go_num, HE2.out, HR2.out, by rw [HZ.out]; exact HO2.out, hb2⟩
          case measure => simp [intOf]; omega
        · have hdk : decide ((k : Int) < 4) = false := by simp; omega
          obtain rfl : k = 4 := by omega
          rw [show ((4 : Nat) : Int) = (4 : Int) from rfl] at *
          have cx := lmc_cell HO.out i (by rw [List.length_set, HPL.out]; omega)
          rw [show (pl.set i ((limP n i 4 : Nat) : Int)).getD i 0 = ((limP n i 4 : Nat) : Int) by simp [List.getD_eq_getElem?_getD, HPL.out, hlt]] at cx
          have fx := frozen_of_row wr (B + 1 + 1) i _ _ HO.out
          have hpe := HPE.out
          have hps := HPS.out
          have r1 := lmc_heap_set HO.out i ((n / 67108864 ^ i % 67108864 : Nat) : Int)
          rw [List.set_set, hps] at r1
          generalize limP n i 4 = z at *
          generalize n / 67108864 ^ i % 67108864 = y at *
          have ha := and_26 ((z : Int) / 2 ^ (26 * i % 8))
          have ey : (z : Int) / 2 ^ (26 * i % 8) % 67108864 = (y : Int) := by rw [← hpe]; simp
          rw [ey] at ha
          have HO2 := Lib.hid r1
          have HE2 := Lib.hid (show (wr.setCell ⟨B + 1 + 1, i, none⟩ (.int .u64 (y : Int))).heap[B]? = some (.cells (bcells l) 45) from by rw [heap_setCell_other _ _ _ _ (by simp; omega)]; exact HE.out)
          have HR2 := Lib.hid (show (wr.setCell ⟨B + 1 + 1, i, none⟩ (.int .u64 (y : Int))).heap[B + 1]? = some (.cells zeros5 33) from by rw [heap_setCell_other _ _ _ _ (by simp)]; exact HR.out)
          have hb2 : Below B w (wr.setCell ⟨B + 1 + 1, i, none⟩ (.int .u64 (y : Int))) := hb.setCell (by simp; omega) _
          clear r1 hb HR HE HO hps hpe ey
          go_wp2_with fail
          go_roundw
          case rel => exact ⟨i + 1, by omega, by go_num, HE2.out, HR2.out, HO2.out, hb2⟩
          case measure => simp [intOf]; omega
    · have hd : decide ((i : Int) < 5) = false := by simp; omega
      obtain rfl : i = 5 := by omega
      rw [numP_full] at HO
      have hll := numL_length n
      generalize hrow : numL n = row at *
      have HROW := Lib.hid hrow
      have HI2 := Lib.hid (sizeN row hll)
      have HSz := Lib.hid (zeros5_size row hll)
      have HOne := Lib.hid (lmc_one row)
      clear hrow hll
      go_wp2_with (first
        | (with_reducible refine wpList_load_row rfl 33 _ rfl (B + 1 + 1) rfl 33 _ (0, 0) _ HO.out Try.underlying33 rfl HI2.out ?_)
        | (with_reducible refine wpList_store_row rfl 33 _ _ rfl (B + 1) (lmc row) rfl rfl 33 _ HR.out HI2.out HSz.out HOne.out ?_))
      exact bodyPost_ret (v := .agg (lmc row)) (results_cell_row (by rfl) _ _ (B + 1) 33 _ (0, 0) _ rfl (setRow_heap _ _ _ _ _ _ HR.out) Try.underlying33 rfl HI2.out) rfl ⟨by first | (with_reducible rfl) | rw [HROW.out], by rw [HBB.out]; exact below_setRow hb (by omega) _⟩
end Go.Proofs.Ytbbpgplfdodpmaa
