/- The program's encodings: the bytes of a number, and the number of bytes. -/
import Derived.Test.YtbbpgplfdodpmaaPolyProd
namespace Go.Proofs.Ytbbpgplfdodpmaa
open Go.RowKit Go.Sort
set_option maxRecDepth 100000
set_option linter.unusedSimpArgs false
set_option linter.unusedVariables false

theorem bcells_one (l : List UInt8) : (bcells l).all (·.oneCell') = true := by
  rw [Array.all_eq_true]
  intro i hi
  simp [bcells, Lib.byteCells, Value.oneCell']
def bzeros16 : Array Value := bcells (List.replicate 16 0)
theorem infoB16 : (Try.prog.info? 35).map (fun i => (i.zero, i.size)) = some (some (.agg bzeros16), 16) := by kernel_rfl
theorem sizeB16 (l : List UInt8) (h : l.length = 16) : (Try.prog.info? 35).map (·.size) = some (bcells l).size := by rw [bcells_size, h]; exact (zero_of_info infoB16).2
theorem bzeros16_size (l : List UInt8) (h : l.length = 16) : bzeros16.size = (bcells l).size := by rw [bcells_size, h]; exact bcells_size _
theorem u64_or_nat (a b : Nat) (ha : a < 2 ^ 64) (hb : b < 2 ^ 64) : bits .or .u64 (a : Int) (b : Int) = ((a ||| b : Nat) : Int) := by
  have key : (BitVec.ofInt 64 (a : Int) ||| BitVec.ofInt 64 (b : Int)).toNat = a ||| b := by
    rw [BitVec.toNat_or, BitVec.toNat_ofInt, BitVec.toNat_ofInt]
    rw [show ((a : Int) % ((2 ^ 64 : Nat) : Int)).toNat = a by omega, show ((b : Int) % ((2 ^ 64 : Nat) : Int)).toNat = b by omega]
  show IntKind.u64.wrap ((BitVec.ofInt 64 (a : Int) ||| BitVec.ofInt 64 (b : Int)).toNat : Nat) = _
  rw [key, IntKind.wrap_u64]
  have := Nat.or_lt_two_pow ha hb
  omega
theorem u64_or_add (x y : Int) (s : Nat) (hx0 : 0 ≤ x) (hx : x < 2 ^ s) (hy0 : 0 ≤ y) (hxy : x + y * 2 ^ s < 2 ^ 64) : bits .or .u64 x (y * 2 ^ s) = x + y * 2 ^ s := by
  obtain ⟨a, rfl⟩ := Int.eq_ofNat_of_zero_le hx0
  obtain ⟨b, rfl⟩ := Int.eq_ofNat_of_zero_le hy0
  have e : ((b : Int) * 2 ^ s) = ((2 ^ s * b : Nat) : Int) := by rw [Int.mul_comm]; simp
  rw [e] at hxy ⊢
  have hxa : a < 2 ^ s := by
    have h2 : ((2 : Int) ^ s) = ((2 ^ s : Nat) : Int) := by simp
    rw [h2] at hx; omega
  rw [u64_or_nat _ _ (by omega) (by omega), Nat.or_comm, ← Nat.two_pow_add_eq_or_of_lt hxa]
  omega
/-- The bytes while they are laid. -/
def outLow (n k : Nat) : List UInt8 := leOut n k ++ List.replicate (16 - k) 0
theorem outLow_length (n k : Nat) (h : k ≤ 16) : (outLow n k).length = 16 := by simp [outLow, leOut_length]; omega
theorem outLow_set (n k : Nat) (h : k < 16) : (outLow n k).set k (UInt8.ofNat (n / 256 ^ k % 256)) = outLow n (k + 1) := by
  have e : List.replicate (16 - k) (0 : UInt8) = 0 :: List.replicate (16 - (k + 1)) 0 := by rw [show 16 - k = (16 - (k + 1)) + 1 by omega, List.replicate_succ]
  rw [outLow, e, List.set_append, if_neg (by rw [leOut_length]; omega), leOut_length, Nat.sub_self, List.set_cons_zero, outLow, leOut]
  simp
theorem outLow_zero (n : Nat) : bzeros16 = bcells (outLow n 0) := rfl
theorem outLow_full (n : Nat) : outLow n 16 = leOut n 16 := by simp [outLow]

set_option maxHeartbeats 1000000 in
theorem low_any (v : List Int) (w : World) (hl : v.length = 5) (hv : digitsIn 4611686018427387904 v) :
    Calls Try.prog 15 #[.agg (lmc v)] w fun e w' => e = .returned (.agg (bcells (leOut (limV v).toNat 16))) ∧ Below w.heap.size w w' := by
  obtain ⟨hz, hi⟩ := zero_of_info infoN
  obtain ⟨hz16, hi16⟩ := zero_of_info infoB16
  have HG0 := Lib.hid (blk_old (o := .cells bzeros16 35) (blk_old (o := .cells bzeros16 35) (blk_new w (.cells (lmc v) 33))))
  have HR0 := Lib.hid (blk_old (o := .cells bzeros16 35) (blk_new2 w (.cells (lmc v) 33) (.cells bzeros16 35)))
  have HO0 := Lib.hid (blk_new3 w (.cells (lmc v) 33) (.cells bzeros16 35) (.cells bzeros16 35))
  have hb0 := below_new3 w (.cells (lmc v) 33) (.cells bzeros16 35) (.cells bzeros16 35)
  have HIv := Lib.hid (sizeN v hl)
  have HS := Lib.hid (fun W => spread_any v W hl hv)
  have hul : (spreadL v).length = 5 := by rw [spreadL_length, hl]
  have HUI := Lib.hid (spreadL_in v hl)
  have HN := Lib.hid (show leOut (limV (spreadL v)).toNat 16 = leOut (limV v).toNat 16 from by
    have h0 := limV_nonneg v _ hv
    rw [(spread_V v hl).1, ← leOut_mod _ 16 (Nat.le_refl _)]
    rw [← leOut_mod (limV v).toNat 16 (Nat.le_refl _)]
    congr 1; omega)
  have HVS := Lib.hid (show (lmc v).size = (lmc (spreadL v)).size from by rw [lmc_size, lmc_size, hul, hl])
  clear hi hl hv hi16
  go_enter Try.func15, Try.ntmps15
  go_wp2_with (with_reducible refine wpList_load_row rfl 33 _ rfl w.heap.size rfl 33 _ (0, 0) _ HG0.out Try.underlying33 rfl HIv.out ?_)
  clear hz hz16
  generalize (((w.alloc _).alloc _).alloc _) = W0 at *
  generalize hBB : w.heap.size = B at *
  have HBB := Lib.hid hBB
  clear hBB
  refine (HS.out W0).mono ?_
  rintro e W1 ⟨rfl, hb1⟩
  have hlt0 := blk_lt HO0.out
  have HG := Lib.hid (blk_below hb1 (by omega) HG0.out)
  have HR := Lib.hid (blk_below hb1 (by omega) HR0.out)
  have HO := Lib.hid (blk_below hb1 hlt0 HO0.out)
  have hb : Below B w W1 := hb0.trans (hb1.mono (by omega))
  clear HS HG0 HR0 HO0 hb0 hb1 hlt0
  generalize spreadL v = u at *
  generalize spreadC v = c at *
  have HI := Lib.hid (sizeN u hul)
  have H1 := Lib.hid (lmc_one u)
  have HG2 := Lib.hid (setRow_heap W1 B _ (lmc u) _ _ HG.out)
  have HR2 := Lib.hid (show (W1.setRow B (lmc u)).heap[B + 1]? = some (.cells bzeros16 35) from by rw [setRow_other _ _ _ _ (by omega)]; exact HR.out)
  have HO2 := Lib.hid (show (W1.setRow B (lmc u)).heap[B + 1 + 1]? = some (.cells bzeros16 35) from by rw [setRow_other _ _ _ _ (by omega)]; exact HO.out)
  have hb2 : Below B w (W1.setRow B (lmc u)) := below_setRow hb (Nat.le_refl _) _
  clear HR HO hb
  go_wp2_with (with_reducible refine wpList_store_row rfl 33 _ _ rfl B (lmc u) rfl rfl 33 _ HG.out HI.out HVS.out H1.out ?_)
  clear HG
  generalize (World.setRow _ _ _) = W2 at *
  have HUL := Lib.hid hul
  clear hul
  obtain ⟨n, hn⟩ : ∃ n, n = (limV u).toNat := ⟨_, rfl⟩
  have HNN := Lib.hid hn
  clear hn
  go_loopw [13] (fun iv wr => ∃ k : Nat, k ≤ 16 ∧ iv = .int .i64 (k : Int) ∧ wr.heap[B]? = some (.cells (lmc u) 33) ∧ wr.heap[B + 1]? = some (.cells bzeros16 35) ∧ wr.heap[B + 1 + 1]? = some (.cells (bcells (outLow n k)) 35) ∧ Below B w wr) (fun iv _ => 16 - (intOf iv).toNat)
  case atStart => exact ⟨0, by omega, rfl, HG2.out, HR2.out, HO2.out, hb2⟩
  case round =>
    clear HG2 HR2 HO2 hb2
    obtain ⟨k, hk, rfl, hg, hr, ho, hb⟩ := hrel
    have HG := Lib.hid hg; have HR := Lib.hid hr; have HO := Lib.hid ho
    clear hg hr ho
    by_cases hlt : k < 16
    · have hd : decide ((k : Int) < 16) = true := by simp; omega
      obtain ⟨x0, x1⟩ := getD_in HUI.out (8 * k / 26) (by rw [HUL.out]; omega)
      have cx := lmc_cell HG.out (8 * k / 26) (by rw [HUL.out]; omega)
      have hlow := low_byte u HUL.out HUI.out k hlt
      have HS := Lib.hid (outLow_set n k hlt)
      have hu0 := limV_nonneg u _ HUI.out
      have hB8 : ((UInt8.ofNat (n / 256 ^ k % 256)).toNat : Int) = limV u / 256 ^ k % 256 := by
        rw [UInt8.toNat_ofNat', HNN.out]
        have e : limV u / 256 ^ k % 256 = (((limV u).toNat / 256 ^ k % 256 : Nat) : Int) := by
          obtain ⟨m, hm⟩ := Int.eq_ofNat_of_zero_le hu0
          rw [hm]; simp
        rw [e]; omega
      rw [← hB8] at hlow
      clear hu0 hB8
      generalize UInt8.ofNat (n / 256 ^ k % 256) = b8 at *
      have hl16 : (outLow n k).length = 16 := outLow_length n k (by omega)
      have co : wr.cell? ⟨B + 1 + 1, k, none⟩ = some (.int .u8 ((outLow n k).getD k 0).toNat) := by rw [cell_of_row wr _ _ _ _ _ HO.out]; exact bcells_get _ k _ (by simp [List.getD_eq_getElem?_getD, hl16, hlt])
      have fo := frozen_of_row wr (B + 1 + 1) k _ _ HO.out
      have r1 := Go.heap_setCell_same wr (B + 1 + 1) k _ _ (.int .u8 (b8.toNat : Int)) HO.out
      rw [bcells_set, HS.out] at r1
      have HO3 := Lib.hid r1
      have HG3 := Lib.hid (show (wr.setCell ⟨B + 1 + 1, k, none⟩ (.int .u8 (b8.toNat : Int))).heap[B]? = some (.cells (lmc u) 33) from by rw [heap_setCell_other _ _ _ _ (by simp; omega)]; exact HG.out)
      have HR3 := Lib.hid (show (wr.setCell ⟨B + 1 + 1, k, none⟩ (.int .u8 (b8.toNat : Int))).heap[B + 1]? = some (.cells bzeros16 35) from by rw [heap_setCell_other _ _ _ _ (by simp)]; exact HR.out)
      have hb3 : Below B w (wr.setCell ⟨B + 1 + 1, k, none⟩ (.int .u8 (b8.toNat : Int))) := hb.setCell (by simp; omega) _
      clear r1 hl16 HS HR HO hb
      generalize ((outLow n k).getD k 0).toNat = old at *
      by_cases h5 : 8 * k / 26 + 1 < 5
      · have hd5 : decide (8 * (k : Int) / 26 + 1 < 5) = true := by simp; omega
        obtain ⟨y0, y1⟩ := getD_in HUI.out (8 * k / 26 + 1) (by rw [HUL.out]; omega)
        have cy := lmc_cell HG.out (8 * k / 26 + 1) (by rw [HUL.out]; omega)
        have he := hlow.1 h5
        have hsh : (26 - 8 * (k : Int) % 26).toNat = 26 - 8 * k % 26 := by omega
        have hof : (8 * (k : Int) / 26 + 1).toNat = 8 * k / 26 + 1 := by omega
        generalize u.getD (8 * k / 26) 0 = x at *
        generalize u.getD (8 * k / 26 + 1) 0 = y at *
        have hat : 8 * k % 26 ≤ 24 := by omega
        have hp1 : x / 2 ^ (8 * k % 26) < 2 ^ (26 - 8 * k % 26) := by
          rw [Int.ediv_lt_iff_lt_mul (Int.pow_pos (by omega)), ← Int.pow_add, show 26 - 8 * k % 26 + 8 * k % 26 = 26 by omega]; omega
        have hp0 : 0 ≤ x / 2 ^ (8 * k % 26) := Int.ediv_nonneg x0 (Int.le_of_lt (Int.pow_pos (by omega)))
        have hq0 : 0 ≤ y * 2 ^ (26 - 8 * k % 26) := Int.mul_nonneg y0 (Int.le_of_lt (Int.pow_pos (by omega)))
        have hpw : (2 : Int) ^ (26 - 8 * k % 26) ≤ 67108864 := by
          have := Nat.pow_le_pow_right (n := 2) (by omega) (show 26 - 8 * k % 26 ≤ 26 by omega)
          have e2 : ((2 : Int) ^ (26 - 8 * k % 26)) = ((2 ^ (26 - 8 * k % 26) : Nat) : Int) := by simp
          rw [e2]; omega
        have hq1 : y * 2 ^ (26 - 8 * k % 26) ≤ 67108863 * 67108864 := Int.mul_le_mul y1 hpw (Int.le_of_lt (Int.pow_pos (by omega))) (by omega)
        have hor := u64_or_add (x / 2 ^ (8 * k % 26)) y (26 - 8 * k % 26) hp0 hp1 y0 (by omega)
        have hw : (y * 2 ^ (26 - 8 * k % 26)) % 18446744073709551616 = y * 2 ^ (26 - 8 * k % 26) := by omega
        clear hp1 hp0 hq0 hpw hq1 x0 x1 y0 y1 hlow
        go_wp2_with fail
        go_roundw
        case rel => exact ⟨k + 1, by omega, by go_num, HG3.out, HR3.out, HO3.out, hb3⟩
        case measure => simp [intOf]; omega
      · have hd5 : decide (8 * (k : Int) / 26 + 1 < 5) = false := by simp; omega
        have he := hlow.2 (by omega)
        generalize u.getD (8 * k / 26) 0 = x at *
        clear hlow x0 x1
        go_wp2_with fail
        go_roundw
        case rel => exact ⟨k + 1, by omega, by go_num, HG3.out, HR3.out, HO3.out, hb3⟩
        case measure => simp [intOf]; omega
    · have hd : decide ((k : Int) < 16) = false := by simp; omega
      obtain rfl : k = 16 := by omega
      rw [outLow_full, HNN.out, HN.out] at HO
      have hll : (leOut (limV v).toNat 16).length = 16 := leOut_length _ _
      generalize hrow : leOut (limV v).toNat 16 = row at *
      have HROW := Lib.hid hrow
      have HI2 := Lib.hid (sizeB16 row hll)
      have HSz := Lib.hid (bzeros16_size row hll)
      have HOne := Lib.hid (bcells_one row)
      clear hrow hll
      go_wp2_with (first
        | (with_reducible refine wpList_load_row rfl 35 _ rfl (B + 1 + 1) rfl 35 _ (0, 0) _ HO.out Try.underlying35 rfl HI2.out ?_)
        | (with_reducible refine wpList_store_row rfl 35 _ _ rfl (B + 1) (bcells row) rfl rfl 35 _ HR.out HI2.out HSz.out HOne.out ?_))
      exact bodyPost_ret (v := .agg (bcells row)) (results_cell_row (by rfl) _ _ (B + 1) 35 _ (0, 0) _ rfl (setRow_heap _ _ _ _ _ _ HR.out) Try.underlying35 rfl HI2.out) rfl ⟨by first | (with_reducible rfl) | rw [HROW.out], by rw [HBB.out]; exact below_setRow hb (by omega) _⟩
end Go.Proofs.Ytbbpgplfdodpmaa
