/- FieldOnce: for every text: the bytes of its number are that number's again, and the bytes of the number and p together are its too; the chapter's examples hold. No condition; the prime of package field lies as the program's text lays it. -/
import Derived.Test.YtfidcdkoggfjaaaDoorCards
import Derived.Test.YtfidcdkoggfjaaaDoorTie
import Derived.SevenTiedAt
import Derived.Test.YtfidcdkoggfjaaaDoorFldWake
import Derived.Test.YtfidcdkoggfjaaaDoorFresh
import Derived.Test.YtfidcdkoggfjaaaDoorOwn
namespace Go.Proofs.YtfidcdkoggfjaaaDoor
open Go.ChangeShapes Go.WideShapes Go.ChangeAt Go.WideMaps Go.WideElems Go.RowKit
open Go.ChangeMaps (open_string shut_string)
set_option maxRecDepth 100000
set_option linter.unusedSimpArgs false
set_option linter.unusedVariables false

theorem leV_of (l : List UInt8) (x n : Nat) (h : ∀ j, j < n → (l.getD j 0).toNat = x / 256 ^ j % 256) : ∀ k, k ≤ n → leV l k = x % 256 ^ k
  | 0, _ => by simp [leV, Nat.mod_one]
  | k + 1, hk => by rw [leV, leV_of l x n h k (by omega), h k (by omega), Nat.pow_succ, Nat.mod_mul, Nat.mul_comm (256 ^ k)]
theorem leV_leF (x : Nat) (h : x < mF) : leV (leF x 32) 32 = x := by
  rw [leV_of (leF x 32) x 32 (fun j hj => by rw [leF_get _ _ _ hj, UInt8.toNat_ofNat']) 32 (Nat.le_refl _), show 256 ^ 32 = mF by decide, Nat.mod_eq_of_lt h]
/-- What is carried, byte by byte. -/
def cbF (X P i : Nat) : Nat := (X % 256 ^ i + P % 256 ^ i) / 256 ^ i
theorem cbF_step (X P i : Nat) : (cbF X P i + X / 256 ^ i % 256 + P / 256 ^ i % 256) % 256 = (X + P) / 256 ^ i % 256 ∧ (cbF X P i + X / 256 ^ i % 256 + P / 256 ^ i % 256) / 256 = cbF X P (i + 1) ∧ cbF X P i ≤ 1 := by
  have hp : 0 < 256 ^ i := Nat.pow_pos (by decide)
  have hS : (X % 256 ^ (i + 1) + P % 256 ^ (i + 1)) / 256 ^ i = cbF X P i + X / 256 ^ i % 256 + P / 256 ^ i % 256 := by
    rw [cbF, Nat.pow_succ, Nat.mod_mul, Nat.mod_mul]
    rw [show X % 256 ^ i + 256 ^ i * (X / 256 ^ i % 256) + (P % 256 ^ i + 256 ^ i * (P / 256 ^ i % 256)) = X % 256 ^ i + P % 256 ^ i + 256 ^ i * (X / 256 ^ i % 256 + P / 256 ^ i % 256) by rw [Nat.mul_add]; omega]
    rw [Nat.add_mul_div_left _ _ hp]
    omega
  refine ⟨?_, ?_, ?_⟩
  · rw [← hS, ← Nat.mod_mul_right_div_self, ← Nat.pow_succ, ← Nat.add_mod, Nat.pow_succ, Nat.mod_mul_right_div_self]
  · rw [← hS, Nat.div_div_eq_div_mul, ← Nat.pow_succ]; rfl
  · have h1 := Nat.mod_lt X hp; have h2 := Nat.mod_lt P hp
    have : cbF X P i < 2 := Nat.div_lt_of_lt_mul (by omega)
    omega
theorem cbF_last (x : Nat) (h : x < pF) : cbF x pF 32 = 0 := by
  have h1 : 256 ^ 32 = mF := by decide
  have h2 := mF_pF
  rw [cbF, h1, Nat.mod_eq_of_lt (by omega), Nat.mod_eq_of_lt (by omega), Nat.div_eq_of_lt (by omega)]
/-- The bytes while the prime's are added. -/
def onL (X Y i : Nat) : List UInt8 := (List.range 32).map fun j => if j < i then UInt8.ofNat (X / 256 ^ j) else UInt8.ofNat (Y / 256 ^ j)
theorem onL_length (X Y i : Nat) : (onL X Y i).length = 32 := by simp [onL]
theorem onL_getD (X Y i j : Nat) (h : j < 32) : (onL X Y i).getD j 0 = if j < i then UInt8.ofNat (X / 256 ^ j) else UInt8.ofNat (Y / 256 ^ j) := range_getD _ _ _ h
theorem onL_zero (X Y : Nat) : onL X Y 0 = leF Y 32 := bytes_ext (onL_length ..) (leF_length ..) fun i hi => by rw [onL_getD _ _ _ _ hi, leF_get _ _ _ hi, if_neg (by omega)]
theorem onL_full (X Y : Nat) : onL X Y 32 = leF X 32 := bytes_ext (onL_length ..) (leF_length ..) fun i hi => by rw [onL_getD _ _ _ _ hi, leF_get _ _ _ hi, if_pos hi]
theorem onL_set (X Y i : Nat) (h : i < 32) : (onL X Y i).set i (UInt8.ofNat (X / 256 ^ i)) = onL X Y (i + 1) := bytes_ext (by rw [List.length_set, onL_length]) (onL_length ..) fun j hj => by
  rw [onL_getD _ _ _ _ hj, List.getD_eq_getElem?_getD, List.getElem?_set]
  by_cases e : i = j
  · subst e; rw [if_pos rfl, if_pos (by rw [onL_length]; exact h), if_pos (by omega)]; rfl
  · rw [if_neg e, ← List.getD_eq_getElem?_getD, onL_getD _ _ _ _ hj]
    by_cases h1 : j < i
    · rw [if_pos h1, if_pos (by omega)]
    · rw [if_neg h1, if_neg (by omega)]
theorem prime_bytes : ∀ i, i < 32 → pF / 256 ^ i % 256 = if i = 0 then 237 else if i = 31 then 127 else 255 := by decide +kernel
theorem other_textF (s : ByteArray) : (s.toList != s.toList) = false := by simp
theorem byteF_set (l : List UInt8) (j : Nat) (b : UInt8) : (Lib.byteCells l).set j (.int .u8 (b.toNat : Int)) = Lib.byteCells (l.set j b) := by simp only [Lib.byteCells, List.map_set]
set_option maxHeartbeats 4000000 in
theorem fieldOnce_any (s0 : ByteArray) (w : World) (_ : s0.size ≤ maxLen) (hT : PrmQ w) :
    Calls Tryd.prog 10 #[.string s0] w fun e w' => e = .returned (.bool true) ∧ Below w.heap.size w w' := by
  by_cases h0 : s0.size = 32
  · have P0 := Lib.hid (fun W => of_any s0 W h0)
    have hx0 : leV s0.data.toList 32 % pF < pF := Nat.mod_lt _ pF_pos
    generalize leV s0.data.toList 32 % pF = x0 at *
    have t0 : ((s0.size : Int) != 32) = false := by simp [h0]
    have I0 := Lib.hid (sizeF' x0); have Z0 := Lib.hid (zerosF_size x0); have O0 := Lib.hid (uc_one (limN 4 x0))
    clear h0
    have hX : x0 + pF < mF := by have := mF_pF; omega
    have P1 := Lib.hid (fun W => of_any ⟨(leF x0 32).toArray⟩ W (leF_length x0 32))
    rw [show (⟨(leF x0 32).toArray⟩ : ByteArray).data.toList = leF x0 32 from rfl, leV_leF x0 (Nat.lt_trans hx0 pF_lt_mF), Nat.mod_eq_of_lt hx0] at P1
    have P2 := Lib.hid (fun W => of_any ⟨(leF (x0 + pF) 32).toArray⟩ W (leF_length (x0 + pF) 32))
    rw [show (⟨(leF (x0 + pF) 32).toArray⟩ : ByteArray).data.toList = leF (x0 + pF) 32 from rfl, leV_leF (x0 + pF) hX, Nat.add_mod_right, Nat.mod_eq_of_lt hx0] at P2
    have B0 := Lib.hid (fun W => bytesF_any x0 W)
    have hzl : (⟨(leF x0 32).toArray⟩ : ByteArray).size = 32 := leF_length x0 32
    have hzd : (⟨(leF x0 32).toArray⟩ : ByteArray).data.toList = onL (x0 + pF) x0 0 := by rw [onL_zero]
    have HST := Lib.hid (fun i => cbF_step x0 pF i)
    have HC32 := Lib.hid (cbF_last x0 hx0)
    have HC0 : Hid (cbF x0 pF 0 = 0) := Lib.hid (by simp [cbF, Nat.mod_one])
    have HPB := Lib.hid prime_bytes
    have HON := Lib.hid (fun i (hi : i < 32) => onL_set (x0 + pF) x0 i hi)
    have HOG := Lib.hid (fun i (hi : i < 32) => (show (onL (x0 + pF) x0 i).getD i 0 = UInt8.ofNat (x0 / 256 ^ i) by rw [onL_getD _ _ _ _ hi, if_neg (by omega)]))
    have HOF := Lib.hid (onL_full (x0 + pF) x0)
    generalize (⟨(leF x0 32).toArray⟩ : ByteArray) = zx at *
    have ex := same_text zx; have fx := other_textF zx
    have hd32 : ((zx.size : Int) != 32) = false := by rw [hzl]; rfl
    clear hX hx0
    obtain ⟨hz, _⟩ := zero_of_info infoF
    have HP := Lib.hid hT
    have hb := Below.refl w.heap.size w
    clear hT
    go_enter Tryd.func10, Tryd.ntmps10
    go_wp2_with fail
    refine (P0.out w).mono ?_
    rintro e W1 ⟨rfl, bk⟩
    have hb := hb.trans (bk.mono hb.size)
    have HP := Lib.hid (HP.out.step bk)
    clear bk
    have HN := Lib.hid (blk_new W1 (.cells zeros4 26))
    have bn := below_new W1 (.cells zeros4 26)
    have qG0 := Lib.hid (setRow_heap _ W1.heap.size _ (uc (limN 4 x0)) _ _ HN.out)
    go_wp2_with (first | (with_reducible refine wpList_store_row rfl 26 _ _ rfl W1.heap.size (uc (limN 4 x0)) rfl rfl 26 _ HN.out I0.out Z0.out O0.out ?_) | (with_reducible refine wpList_load_row rfl 26 _ rfl W1.heap.size rfl 26 _ (0, 0) _ qG0.out Tryd.underlying26 rfl I0.out ?_))
    have bk := below_setRow bn (Nat.le_refl _) (uc (limN 4 x0))
    have hb := hb.trans (bk.mono hb.size)
    have HP := Lib.hid (HP.out.step bk)
    have G0 := qG0
    generalize (World.setRow (World.alloc _ _) _ _) = W2 at *
    generalize W1.heap.size = gG0 at *
    clear bk bn HN qG0
    refine (B0.out W2).mono ?_
    rintro e W3 ⟨rfl, bk⟩
    have hb := hb.trans (bk.mono hb.size)
    have HP := Lib.hid (HP.out.step bk)
    have G0 := Lib.hid (blk_below bk (blk_lt G0.out) G0.out)
    clear bk
    go_wp2_with (first | (with_reducible refine wpList_load_row rfl 26 _ rfl gG0 rfl 26 _ (0, 0) _ G0.out Tryd.underlying26 rfl I0.out ?_) | ((with_reducible refine wpList_load_want ?hw 26 _ rfl gG0 rfl 26 _ (0, 0) _ G0.out Tryd.underlying26 rfl I0.out ?_); (case hw => rfl)))
    refine (P1.out W3).mono ?_
    rintro e W4 ⟨rfl, bk⟩
    have hb := hb.trans (bk.mono hb.size)
    have HP := Lib.hid (HP.out.step bk)
    have G0 := Lib.hid (blk_below bk (blk_lt G0.out) G0.out)
    clear bk
    have HN := Lib.hid (blk_new W4 (.cells zeros4 26))
    have bn := below_new W4 (.cells zeros4 26)
    have qG1 := Lib.hid (setRow_heap _ W4.heap.size _ (uc (limN 4 x0)) _ _ HN.out)
    go_wp2_with (first | (first | (with_reducible refine wpList_store_row rfl 26 _ _ rfl W4.heap.size (uc (limN 4 x0)) rfl rfl 26 _ HN.out I0.out Z0.out O0.out ?_) | (with_reducible refine wpList_load_row rfl 26 _ rfl W4.heap.size rfl 26 _ (0, 0) _ qG1.out Tryd.underlying26 rfl I0.out ?_)) | (with_reducible refine wpList_load_row rfl 26 _ rfl gG0 rfl 26 _ (0, 0) _ G0.out Tryd.underlying26 rfl I0.out ?_) | ((with_reducible refine wpList_load_want ?hw 26 _ rfl gG0 rfl 26 _ (0, 0) _ G0.out Tryd.underlying26 rfl I0.out ?_); (case hw => rfl)))
    have bk := below_setRow bn (Nat.le_refl _) (uc (limN 4 x0))
    have hb := hb.trans (bk.mono hb.size)
    have HP := Lib.hid (HP.out.step bk)
    have G0 := Lib.hid (blk_below bk (blk_lt G0.out) G0.out)
    have G1 := qG1
    generalize (World.setRow (World.alloc _ _) _ _) = W5 at *
    generalize W4.heap.size = gG1 at *
    clear bk bn HN qG1
    refine wp_region_reads (by kernel_rfl) (by kernel_rfl) ?_
    repeat (first | go_big_quiet_step (first | with_reducible exact Calls.regrown_of (B0.out _)) | (refine arr_quiet_load rfl 26 _ rfl ⟨gG0, 0, none⟩ rfl _ (arr_row_regrown 26 gG0 26 _ (0, 0) _ G0.out Tryd.underlying26 rfl I0.out) ?_; simp only [Act.put, List.setIfInBounds_toArray, List.set_cons_succ, List.set_cons_zero]) | (refine arr_quiet_load rfl 26 _ rfl ⟨gG1, 0, none⟩ rfl _ (arr_row_regrown 26 gG1 26 _ (0, 0) _ G1.out Tryd.underlying26 rfl I0.out) ?_; simp only [Act.put, List.setIfInBounds_toArray, List.set_cons_succ, List.set_cons_zero]) | quiet_step (first | with_reducible exact Calls.regrown_of (B0.out _)))
    refine wpQuiet_nil ?_
    intro W6 bk
    have hb := hb.trans (bk.mono hb.size)
    have HP := Lib.hid (HP.out.step bk)
    have G0 := Lib.hid (blk_below bk (blk_lt G0.out) G0.out)
    have G1 := Lib.hid (blk_below bk (blk_lt G1.out) G1.out)
    clear bk
    clear G1
    go_wp2_with (first | (with_reducible refine wpList_load_row rfl 26 _ rfl gG0 rfl 26 _ (0, 0) _ G0.out Tryd.underlying26 rfl I0.out ?_) | ((with_reducible refine wpList_load_want ?hw 26 _ rfl gG0 rfl 26 _ (0, 0) _ G0.out Tryd.underlying26 rfl I0.out ?_); (case hw => rfl)))
    refine (B0.out W6).mono ?_
    rintro e W7 ⟨rfl, bk⟩
    have hb := hb.trans (bk.mono hb.size)
    have HP := Lib.hid (HP.out.step bk)
    have G0 := Lib.hid (blk_below bk (blk_lt G0.out) G0.out)
    clear bk
    obtain ⟨ao, cap, hcd, hown, hbc⟩ := run_convert_string_bytes_own zx W7
    have hlZ : (Lib.byteCells zx.data.toList).length = zx.size := by rw [Lib.byteCells_length, ← Lib.size_eq]
    obtain ⟨G, cG, hvG, hoG, hGlt⟩ := hown.some (by rw [hlZ, hzl]; decide)
    rw [hlZ] at hvG
    cases hvG
    rw [hzd] at hoG
    have HOG0 := Lib.hid hoG
    clear hown hoG hlZ
    go_wp2_with (first | (with_reducible refine wpList_load_row rfl 26 _ rfl gG0 rfl 26 _ (0, 0) _ G0.out Tryd.underlying26 rfl I0.out ?_) | ((with_reducible refine wpList_load_want ?hw 26 _ rfl gG0 rfl 26 _ (0, 0) _ G0.out Tryd.underlying26 rfl I0.out ?_); (case hw => rfl)))
    clear hcd
    try rw [hzl]
    generalize hBB : W7.heap.size = N at *
    have HNN := Lib.hid hBB
    have bk : Below W7.heap.size W7 (Lib.bytesWorld W7 5 zx) := by rw [hBB]; exact hbc
    have hNw : w.heap.size ≤ N := by rw [← hBB]; exact hb.size
    have hNz : N ≤ (Lib.bytesWorld W7 5 zx).heap.size := by rw [← hBB]; exact bk.size
    have HGl : gG0 < N := by rw [← hBB]; exact blk_lt G0.out
    have HPl : 0 < N := by rw [← hBB]; exact HP.out.lt
    clear hBB
    have hb := hb.trans (bk.mono hb.size)
    have HP := Lib.hid (HP.out.step bk)
    have G0 := Lib.hid (blk_below bk (blk_lt G0.out) G0.out)
    clear bk hbc
    generalize (Lib.bytesWorld W7 5 zx) = W8 at *
    generalize cbF x0 pF = cb at *
    go_loopw [8, 9] (fun cv iv wr => ∃ i : Nat, i ≤ 32 ∧ iv = .int .i64 (i : Int) ∧ cv = .int .i64 ((cb i : Nat) : Int) ∧ OwnS wr N G cap (Lib.byteCells (onL (x0 + pF) x0 i)) ∧ Below N W8 wr) (fun _ iv _ => 32 - (intOf iv).toNat)
    case atStart => exact ⟨0, by omega, rfl, by rw [HC0.out]; rfl, HOG0.out, Below.refl _ _⟩
    case round =>
      clear HOG0
      obtain ⟨i, hi, rfl, rfl, ho, hbo⟩ := hrel
      have HO := Lib.hid ho
      clear ho
      by_cases hlt : i < 32
      · have hd : decide ((i : Int) < 32) = true := by simp; omega
        obtain ⟨s1, s2, s3⟩ := HST.out i
        have hpb := HPB.out i hlt
        have hget := HOG.out i hlt
        have hset := HON.out i hlt
        have hll := onL_length (x0 + pF) x0 i
        have cx : wr.cell? ⟨G, i, none⟩ = some (.int .u8 (((onL (x0 + pF) x0 i).getD i 0).toNat : Int)) := HO.out.cells i _ (by simp [Lib.byteCells, List.getD_eq_getElem?_getD, hll, hlt])
        have fx2 : wr.frozen? ⟨G, i, none⟩ = false := (HO.out.room i (by have := HO.out.le; rw [Lib.byteCells_length, hll] at this; omega)).2
        rw [hget, UInt8.toNat_ofNat'] at cx
        have hy : x0 / 256 ^ i % 256 < 256 := Nat.mod_lt _ (by decide)
        have hz : pF / 256 ^ i % 256 < 256 := Nat.mod_lt _ (by decide)
        have hbt : (UInt8.ofNat ((x0 + pF) / 256 ^ i)).toNat = (x0 + pF) / 256 ^ i % 256 := by rw [UInt8.toNat_ofNat']
        generalize UInt8.ofNat ((x0 + pF) / 256 ^ i) = bt at *
        have hput := HO.out.put i (by rw [Lib.byteCells_length, hll]; exact hlt) (.int .u8 (bt.toNat : Int))
        rw [byteF_set, hset] at hput
        generalize x0 / 256 ^ i % 256 = y at *
        generalize pF / 256 ^ i % 256 = m at *
        generalize (x0 + pF) / 256 ^ i % 256 = z at *
        generalize hcc : cb (i + 1) = c' at *
        have HCC := Lib.hid hcc
        generalize cb i = c at *
        have hv1 : ((c : Int) + (y : Int) + (m : Int)) % 256 = (bt.toNat : Int) := by omega
        have hv2 : ((c : Int) + (y : Int) + (m : Int)) / 256 = (c' : Int) := by omega
        have HV2 := Lib.hid hv2
        have HV1 := Lib.hid hv1
        have HPut := Lib.hid hput
        have hb1 : Below N W8 (wr.setCell ⟨G, i, none⟩ (.int .u8 (bt.toNat : Int))) := hbo.setCell (HO.out.base) _
        clear hput hget hset s1 s2 hbt hcc hv1 hv2 hbo HO
        by_cases hi0 : i = 0
        · rw [if_pos hi0] at hpb
          have hq0 : ((i : Int) == 0) = true := by rw [hi0]; rfl
          have hq31 : ((i : Int) == 31) = false := by rw [hi0]; rfl
          have HI0 := Lib.hid hi0
          clear hi0
          obtain rfl : m = 237 := hpb
          try clear hpb
          go_wp2_with fail
          go_roundw
          case rel => exact ⟨i + 1, by omega, by go_num, by rw [HCC.out, ← HV2.out]; rfl, by rw [show ((c : Int) + (y : Int) + 237) % 256 = (bt.toNat : Int) from HV1.out]; exact HPut.out, by rw [show ((c : Int) + (y : Int) + 237) % 256 = (bt.toNat : Int) from HV1.out]; exact hb1⟩
          case measure => simp [intOf]; omega
        · have hq0 : ((i : Int) == 0) = false := by simp only [beq_eq_false_iff_ne, ne_eq]; omega
          rw [if_neg hi0] at hpb
          by_cases hi31 : i = 31
          · rw [if_pos hi31] at hpb
            have hq31 : ((i : Int) == 31) = true := by rw [hi31]; rfl
            clear hi31 hi0
            obtain rfl : m = 127 := hpb
            try clear hpb
            go_wp2_with fail
            go_roundw
            case rel => exact ⟨i + 1, by omega, by go_num, by rw [HCC.out, ← HV2.out]; rfl, by rw [show ((c : Int) + (y : Int) + 127) % 256 = (bt.toNat : Int) from HV1.out]; exact HPut.out, by rw [show ((c : Int) + (y : Int) + 127) % 256 = (bt.toNat : Int) from HV1.out]; exact hb1⟩
            case measure => simp [intOf]; omega
          · rw [if_neg hi31] at hpb
            have hq31 : ((i : Int) == 31) = false := by simp only [beq_eq_false_iff_ne, ne_eq]; omega
            clear hi31 hi0
            obtain rfl : m = 255 := hpb
            try clear hpb
            go_wp2_with fail
            go_roundw
            case rel => exact ⟨i + 1, by omega, by go_num, by rw [HCC.out, ← HV2.out]; rfl, by rw [show ((c : Int) + (y : Int) + 255) % 256 = (bt.toNat : Int) from HV1.out]; exact HPut.out, by rw [show ((c : Int) + (y : Int) + 255) % 256 = (bt.toNat : Int) from HV1.out]; exact hb1⟩
            case measure => simp [intOf]; omega
      · have hd : decide ((i : Int) < 32) = false := by simp; omega
        obtain rfl : i = 32 := by omega
        rw [HOF.out] at HO
        rw [HC32.out]
        have hcs := run_string_row wr G cap (leF (x0 + pF) 32) (fun j x hx => HO.out.cells j _ (by simp [Lib.byteCells, hx]))
        rw [leF_length] at hcs
        generalize (⟨(leF (x0 + pF) 32).toArray⟩ : ByteArray) = zs at *
        have bk : Below N W8 wr := hbo
        have hb : Below w.heap.size w wr := hb.trans (bk.mono hNw)
        have HP := Lib.hid (HP.out.below bk (by have := HPl; omega))
        have G0 := Lib.hid (blk_below bk (by omega) G0.out)
        clear bk hbo
        go_wp2_with (first | (with_reducible refine wpList_load_row rfl 26 _ rfl gG0 rfl 26 _ (0, 0) _ G0.out Tryd.underlying26 rfl I0.out ?_) | ((with_reducible refine wpList_load_want ?hw 26 _ rfl gG0 rfl 26 _ (0, 0) _ G0.out Tryd.underlying26 rfl I0.out ?_); (case hw => rfl)))
        clear hcs HO
        refine (P2.out wr).mono ?_
        rintro e W9 ⟨rfl, bk⟩
        have hb := hb.trans (bk.mono hb.size)
        have HP := Lib.hid (HP.out.step bk)
        have G0 := Lib.hid (blk_below bk (blk_lt G0.out) G0.out)
        clear bk
        have HN := Lib.hid (blk_new W9 (.cells zeros4 26))
        have bn := below_new W9 (.cells zeros4 26)
        go_wp2_with (first | (with_reducible refine wpList_store_row rfl 26 _ _ rfl W9.heap.size (uc (limN 4 x0)) rfl rfl 26 _ HN.out I0.out Z0.out O0.out ?_) | (with_reducible refine wpList_load_row rfl 26 _ rfl gG0 rfl 26 _ (0, 0) _ G0.out Tryd.underlying26 rfl I0.out ?_) | ((with_reducible refine wpList_load_want ?hw 26 _ rfl gG0 rfl 26 _ (0, 0) _ G0.out Tryd.underlying26 rfl I0.out ?_); (case hw => rfl)))
        have qG2 := Lib.hid (setRow_heap _ W9.heap.size _ (uc (limN 4 x0)) _ _ HN.out)
        have bk := below_setRow bn (Nat.le_refl _) (uc (limN 4 x0))
        have hb := hb.trans (bk.mono hb.size)
        have HP := Lib.hid (HP.out.step bk)
        have G0 := Lib.hid (blk_below bk (blk_lt G0.out) G0.out)
        have G2 := qG2
        generalize (World.setRow (World.alloc _ _) _ _) = W10 at *
        generalize W9.heap.size = gG2 at *
        clear bk bn HN qG2
        have hc0 : decide ((0 : Int) < ((0 : Nat) : Int)) = false := by decide
        refine wp_region_reads (by kernel_rfl) (by kernel_rfl) ?_
        repeat (first | go_big_quiet_step (first | with_reducible exact Calls.regrown_of (B0.out _) | with_reducible exact Calls.regrown_of (fawake_any _ (HP.out.step (below_regrown _ _ _)))) | (refine arr_quiet_load rfl 26 _ rfl ⟨gG0, 0, none⟩ rfl _ (arr_row_regrown 26 gG0 26 _ (0, 0) _ G0.out Tryd.underlying26 rfl I0.out) ?_; simp only [Act.put, List.setIfInBounds_toArray, List.set_cons_succ, List.set_cons_zero]) | (refine arr_quiet_load rfl 26 _ rfl ⟨gG2, 0, none⟩ rfl _ (arr_row_regrown 26 gG2 26 _ (0, 0) _ G2.out Tryd.underlying26 rfl I0.out) ?_; simp only [Act.put, List.setIfInBounds_toArray, List.set_cons_succ, List.set_cons_zero]) | quiet_step (first | with_reducible exact Calls.regrown_of (B0.out _) | with_reducible exact Calls.regrown_of (fawake_any _ (HP.out.step (below_regrown _ _ _)))))
        refine wpQuiet_nil ?_
        intro W11 bk
        have hb := hb.trans (bk.mono hb.size)
        have HP := Lib.hid (HP.out.step bk)
        have G0 := Lib.hid (blk_below bk (blk_lt G0.out) G0.out)
        have G2 := Lib.hid (blk_below bk (blk_lt G2.out) G2.out)
        clear bk
        go_wp2_with (first | (with_reducible refine wpList_load_row rfl 26 _ rfl gG0 rfl 26 _ (0, 0) _ G0.out Tryd.underlying26 rfl I0.out ?_) | ((with_reducible refine wpList_load_want ?hw 26 _ rfl gG0 rfl 26 _ (0, 0) _ G0.out Tryd.underlying26 rfl I0.out ?_); (case hw => rfl)) | (with_reducible refine wpList_load_row rfl 26 _ rfl gG2 rfl 26 _ (0, 0) _ G2.out Tryd.underlying26 rfl I0.out ?_) | ((with_reducible refine wpList_load_want ?hw 26 _ rfl gG2 rfl 26 _ (0, 0) _ G2.out Tryd.underlying26 rfl I0.out ?_); (case hw => rfl)))
        go_ret
        exact ⟨rfl, hb⟩
  · have P0 := Lib.hid (fun W => ofBad_any s0 W h0)
    have hx0 : 0 < pF := pF_pos
    obtain ⟨x0, hz0⟩ : ∃ x, x = 0 := ⟨_, rfl⟩
    rw [← hz0] at P0 hx0
    clear hz0
    have t0 : ((s0.size : Int) != 32) = true := by simp; omega
    have I0 := Lib.hid (sizeF' x0); have Z0 := Lib.hid (zerosF_size x0); have O0 := Lib.hid (uc_one (limN 4 x0))
    clear h0
    obtain ⟨hz, _⟩ := zero_of_info infoF
    have HP := Lib.hid hT
    have hb := Below.refl w.heap.size w
    clear hT
    go_enter Tryd.func10, Tryd.ntmps10
    go_wp2_with fail
    refine (P0.out w).mono ?_
    rintro e W1 ⟨rfl, bk⟩
    have hb := hb.trans (bk.mono hb.size)
    have HP := Lib.hid (HP.out.step bk)
    clear bk
    have HN := Lib.hid (blk_new W1 (.cells zeros4 26))
    have bn := below_new W1 (.cells zeros4 26)
    go_wp2_with (with_reducible refine wpList_store_row rfl 26 _ _ rfl W1.heap.size (uc (limN 4 x0)) rfl rfl 26 _ HN.out I0.out Z0.out O0.out ?_)
    have qG0 := Lib.hid (setRow_heap _ W1.heap.size _ (uc (limN 4 x0)) _ _ HN.out)
    have bk := below_setRow bn (Nat.le_refl _) (uc (limN 4 x0))
    have hb := hb.trans (bk.mono hb.size)
    have HP := Lib.hid (HP.out.step bk)
    have G0 := qG0
    generalize (World.setRow (World.alloc _ _) _ _) = W2 at *
    generalize W1.heap.size = gG0 at *
    clear bk bn HN qG0
    refine (fawake_any W2 HP.out).mono ?_
    rintro e W3 ⟨rfl, bk⟩
    have hb := hb.trans (bk.mono hb.size)
    have HP := Lib.hid (HP.out.step bk)
    have G0 := Lib.hid (blk_below bk (blk_lt G0.out) G0.out)
    clear bk
    go_wp2_with (first | (with_reducible refine wpList_load_row rfl 26 _ rfl gG0 rfl 26 _ (0, 0) _ G0.out Tryd.underlying26 rfl I0.out ?_) | ((with_reducible refine wpList_load_want ?hw 26 _ rfl gG0 rfl 26 _ (0, 0) _ G0.out Tryd.underlying26 rfl I0.out ?_); (case hw => rfl)))
    go_ret
    exact ⟨rfl, hb⟩

theorem fieldOnce_lifted (os : Os) (started : os.Started) (H : Type) (enc : TypeId × Value → H) :
    ReturnsInHanded {} Tryd.checked os 10 .any (fun w args => (Rows.fieldOnceSpec.pre enc Tryd.prog Tryd.f10 [] false w args ∧ laidMetH Tryd.prog laid1 w) ∧ sizedMet enc Tryd.prog Tryd.f10 (OpenSpec.ofChange Rows.fieldOnceSpec) false w args)
      (Rows.fieldOnceSpec.post enc Tryd.prog Tryd.f10 false true false false) := by
  refine returnsInHanded_of_change_and (C := Tryd.checked) (X := fun w _ => laidMetH Tryd.prog laid1 w) (fun _ _ _ hh h => h.of_heap hh) own1 started (by kernel_rfl) Tryd.func10
    (ChangeSpec.witness_shaped (enc := enc) (C := Tryd.checked) (os := os) (X := fun w _ => laidMetH Tryd.prog laid1 w) false (World.doorLaid Tryd.prog 400 os) #[.string ⟨#[]⟩] 8 rfl (World.shaped_of_RefB (by kernel_rfl) (by kernel_rfl)) (by kernel_rfl) (by kernel_rfl) (by kernel_rfl) (door_met1 os _)) ?_
  intro W base args ds gs before hval0 hW _ _ hL _
  have hval : ∀ (j : Nat) t v, Tryd.f10.params[j]? = some t → args[j]? = some v → Value.okWide Tryd.prog W .any base t v := hval0
  have hW' := hW
  obtain ⟨p, q, hA0, hV, rfl, hfz, hnd⟩ := hW
  have hA : DataW.TrodAll enc Tryd.prog W 0 (fun _ => true) true Tryd.f10.params.toList args.toList ds p := hA0
  rw [Tryd.params10] at hA hval
  obtain ⟨v0, d0, rfl, rfl, h0⟩ := trodAll_one hA
  obtain ⟨rfl, rfl⟩ := trodVars_none hV
  obtain ⟨s0, rfl, rfl, rfl, w0⟩ := open_string Tryd.underlying9 (hval 0 9 v0 rfl rfl) h0
  have hT := of_laid1 hL
  clear hA0 hval0
  simp only [List.append_nil] at hW'
  refine (fieldOnce_any s0 W w0 hT).mono fun e W' ⟨he, hb⟩ => ?_
  subst he
  refine ⟨_, rfl, _, _, _, [], [], [], hW', ?_, ?_, rfl, hb.frame _, fun h => by cases h⟩
  · exact trodAll_mk1 (shut_bool Tryd.underlying4 _)
  · exact trodAll_mk1 (shut_string Tryd.underlying9 w0)

theorem fieldOnce_holds : Rows.FieldOnceSaid :=
  OpenClaim.holds_of_wide 10 Tryd.f10 rfl rfl rfl rfl rfl rfl rfl ⟨rfl, rfl, rfl, rfl, rfl⟩ rfl rfl rfl rfl rfl (by kernel_rfl) Tryd.func10 (by kernel_rfl)
    (of_decide_eq_true (by kernel_rfl)) (by unfold Func.isWrapper; first | (rw [if_pos (by decide +kernel)]; kernel_rfl) | (rw [if_neg (by decide +kernel)]; exact ⟨rfl, rfl⟩))
    (fun os started H enc _ => fieldOnce_lifted os started H enc)

theorem fieldOnce_card : Rows.FieldOnceCardSaid :=
  Claim7.holds_tied_plain_at .later [] [.data] true (true, "dba20598ad203cc8d4eae559620b14cd2e22259d0cd38305137873b869c887c5") false
    fieldOnce_holds (fun _ h => by cases h) (by kernel_rfl) (fun _ h => by cases h) fieldOnce_row_tie rfl ⟨rfl, rfl⟩ (by kernel_rfl) rfl
    (fun f fn hf hfn => by
      obtain rfl : f = 10 := Option.some.inj ((show Tryd.prog.funcNamed "cresset/cressetlaw08.FieldOnce" = some 10 by kernel_rfl).symm.trans hf) |>.symm
      obtain rfl : fn = Tryd.f10 := (Option.some.inj (Tryd.func10.symm.trans hfn)).symm
      exact ⟨by kernel_rfl, fun j t ht => by
        rw [Tryd.params10] at ht
        have hm : t ∈ [9] := by simpa using Array.mem_of_getElem? ht
        have hall : ([9].all fun u => !Tryd.prog.wantsStandIn u) = true := by kernel_rfl
        exact (show Tryd.prog.wantsStandIn t = false by simpa using List.all_eq_true.1 hall t hm)⟩)
    (by kernel_rfl)
#print axioms fieldOnce_card
end Go.Proofs.YtfidcdkoggfjaaaDoor
