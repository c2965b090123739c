/- Package der: integers: hasNeedless, ReadInt, bigEndian, Int. -/
import Derived.Test.YtimokmhgpigliaaDpRead
import Derived.Test.YtimokmhgpigliaaDrWInt
namespace Go.Proofs.Ytimokmhgpigliaa
open Go.RowKit Go.Sort
set_option maxRecDepth 100000
set_option linter.unusedSimpArgs false
set_option linter.unusedVariables false

/-- Whether the first byte may be spared. -/
def hnB (s : ByteArray) : Bool := if s.size < 2 then false else if rdB s.data.toList 1 < 128 then decide (rdB s.data.toList 0 = 0) else decide (rdB s.data.toList 0 = 255)
theorem hn_iff (s : ByteArray) : hnB s = true ↔ riBad s.data.toList := by
  have hl : s.data.toList.length = s.size := (Lib.size_eq s).symm
  rw [hnB, riBad]
  by_cases c : s.size < 2
  · rw [if_pos c]; exact ⟨fun h => (by cases h), fun h => by omega⟩
  rw [if_neg c]
  by_cases d : rdB s.data.toList 1 < 128
  · rw [if_pos d, decide_eq_true_eq]; exact ⟨fun h => by omega, fun h => by omega⟩
  · rw [if_neg d, decide_eq_true_eq]; exact ⟨fun h => by omega, fun h => by omega⟩
set_option maxHeartbeats 2000000 in
theorem hasNeedless_any (s : ByteArray) (w : World) :
    Calls Try.prog 37 #[.string s] w fun e w' => e = .returned (.bool (hnB s)) ∧ Below w.heap.size w w' := by
  by_cases c : s.size < 2
  · have d1 : decide ((s.size : Int) < 2) = true := by simp; omega
    have HV : Hid (hnB s = false) := Lib.hid (if_pos c)
    clear c
    go_enter Try.func37, Try.ntmps37
    go_wp2_with fail
    go_ret
    exact ⟨by rw [HV.out]; rfl, Below.refl _ _⟩
  have d1 : decide ((s.size : Int) < 2) = false := by simp; omega
  have t0 := rd_at s 0 (by omega)
  have t1 := rd_at s 1 (by omega)
  have i0 : (0 : Int) < (s.size : Int) := by omega
  have i1 : (1 : Int) < (s.size : Int) := by omega
  have j0 : 0 < s.size := by omega
  have j1 : 1 < s.size := by omega
  by_cases d : rdB s.data.toList 1 < 128
  · have d2 : decide ((rdB s.data.toList 1 : Int) < 128) = true := by simp; omega
    have e0 : ((rdB s.data.toList 0 : Int) == 0) = decide (rdB s.data.toList 0 = 0) := by rw [Bool.eq_iff_iff, beq_iff_eq, decide_eq_true_eq]; omega
    have HV : Hid (hnB s = decide (rdB s.data.toList 0 = 0)) := Lib.hid (by rw [hnB, if_neg c, if_pos d])
    clear c d
    generalize rdB s.data.toList 1 = b1 at *
    generalize decide (rdB s.data.toList 0 = 0) = q at *
    generalize rdB s.data.toList 0 = b0 at *
    go_enter Try.func37, Try.ntmps37
    go_wp2_with fail
    go_ret
    exact ⟨by rw [HV.out]; rfl, Below.refl _ _⟩
  · have d2 : decide ((rdB s.data.toList 1 : Int) < 128) = false := by simp; omega
    have e0 : ((rdB s.data.toList 0 : Int) == 255) = decide (rdB s.data.toList 0 = 255) := by rw [Bool.eq_iff_iff, beq_iff_eq, decide_eq_true_eq]; omega
    have HV : Hid (hnB s = decide (rdB s.data.toList 0 = 255)) := Lib.hid (by rw [hnB, if_neg c, if_neg d])
    clear c d
    generalize rdB s.data.toList 1 = b1 at *
    generalize decide (rdB s.data.toList 0 = 255) = q at *
    generalize rdB s.data.toList 0 = b0 at *
    go_enter Try.func37, Try.ntmps37
    go_wp2_with fail
    go_ret
    exact ⟨by rw [HV.out]; rfl, Below.refl _ _⟩
theorem riN_one (l : List UInt8) : riN l 1 = (((rdB l 0 : Nat) : Int) + 128) % 256 - 128 := by
  have := rdB_lt l 0
  rw [riN_succ, riN_zero]
  split <;> omega
set_option maxHeartbeats 16000000 in
theorem readInt_any (s : ByteArray) (w : World) (hs : s.size ≤ 1000000000) :
    Calls Try.prog 21 #[.string s] w fun e w' => e = .returned (.tuple #[.int .i64 (riV s), .int .i64 (riErr s)]) ∧ Below w.heap.size w w' := by
  have hl : s.data.toList.length = s.size := (Lib.size_eq s).symm
  have hb := Below.refl w.heap.size w
  by_cases c0 : s.size = 0
  · have q0 : (s.toList == []) = true := by rw [Lib.toList_data]; have : s.data.toList = [] := List.length_eq_zero_iff.1 (by omega); rw [this]; rfl
    have HB := Lib.hid (ri_bad s 10 (by rw [riE, if_pos (by omega)]) (by decide))
    clear hl hs 
    go_enter Try.func21, Try.ntmps21
    go_wp2_with fail
    go_ret2
    exact ⟨by rw [HB.out.1, HB.out.2]; rfl, hb⟩
  have q0 : (s.toList == []) = false := by rw [Lib.toList_data]; cases h : s.data.toList with | nil => rw [h] at hl; exact absurd hl.symm c0 | cons a r => rfl
  have n0 : ¬ s.data.toList.length = 0 := by omega
  have CN := Lib.hid (fun W => hasNeedless_any s W)
  by_cases c1 : hnB s = true
  · have HB := Lib.hid (ri_bad s 11 (by rw [riE, if_neg n0, if_pos ((hn_iff s).1 c1)]) (by decide))
    rw [c1] at CN
    clear hl hs n0 c0 c1
    go_enter Try.func21, Try.ntmps21
    go_wp2_with fail
    refine (CN.out _).mono ?_
    rintro e W1 ⟨rfl, bk⟩
    replace hb := hb.trans (bk.mono hb.size)
    clear bk CN
    go_wp2_with fail
    go_ret2
    exact ⟨by rw [HB.out.1, HB.out.2]; rfl, hb⟩
  have nb : ¬ riBad s.data.toList := fun h => c1 ((hn_iff s).2 h)
  have c1f : hnB s = false := by simpa using c1
  rw [c1f] at CN
  by_cases c2 : 8 < s.size
  · have HB := Lib.hid (ri_bad s 13 (by rw [riE, if_neg n0, if_neg nb, if_pos (by omega)]) (by decide))
    have d8 : decide ((8 : Int) < (s.size : Int)) = true := by simp; omega
    clear hl hs n0 c0 c1 nb c1f c2
    go_enter Try.func21, Try.ntmps21
    go_wp2_with fail
    refine (CN.out _).mono ?_
    rintro e W1 ⟨rfl, bk⟩
    replace hb := hb.trans (bk.mono hb.size)
    clear bk CN
    go_wp2_with fail
    go_ret2
    exact ⟨by rw [HB.out.1, HB.out.2]; rfl, hb⟩
  have d8 : decide ((8 : Int) < (s.size : Int)) = false := by simp; omega
  have hl0 : 0 < s.size := by omega
  have hi0 : (0 : Int) < (s.size : Int) := by omega
  have t0 := rd_at s 0 hl0
  have h0 := rdB_lt s.data.toList 0
  have HV : Hid (riV s = riN s.data.toList s.size ∧ riErr s = 0) := Lib.hid (by have h : riE s.data.toList = 0 := (by rw [riE, if_neg n0, if_neg nb, if_neg (by omega)]); exact ⟨by rw [riV, if_pos h, hl], h⟩)
  have hr1 := riN_one s.data.toList
  obtain ⟨f0, f1⟩ := riN_first s.data.toList
  have w8 : IntKind.i8.wrap (rdB s.data.toList 0 : Int) = riN s.data.toList 1 := by rw [hr1]; simp [IntKind.wrap, IntKind.signed, IntKind.bits]; split <;> omega
  have w64 : IntKind.i64.wrap (riN s.data.toList 1) = riN s.data.toList 1 := by rw [IntKind.wrap_i64]; omega
  have HR := Lib.hid (fun k (h : k < s.size) => rd_at s k h)
  have HS := Lib.hid (fun k => riN_small s.data.toList k)
  have HL := Lib.hid (fun k => rdB_lt s.data.toList k)
  have HN : Hid (∀ k, riN s.data.toList (k + 1) = riN s.data.toList k * 256 + (rdB s.data.toList k : Int)) := Lib.hid (fun k => rfl)
  have hs8 : s.size ≤ 8 := by omega
  clear hl hs n0 nb c0 c1 c1f c2 h0 hr1 f0 f1
  obtain ⟨b0, eb⟩ : ∃ b0, rdB s.data.toList 0 = b0 := ⟨_, rfl⟩
  rw [eb] at t0 w8
  clear eb
  obtain ⟨r1, er1⟩ : ∃ r1, riN s.data.toList 1 = r1 := ⟨_, rfl⟩
  rw [er1] at w8 w64
  have ER := Lib.hid er1
  clear er1
  go_enter Try.func21, Try.ntmps21
  go_wp2_with fail
  refine (CN.out _).mono ?_
  rintro e W1 ⟨rfl, bk⟩
  replace hb := hb.trans (bk.mono hb.size)
  clear bk CN
  go_wp2_with fail
  generalize hBB : w.heap.size = B at *
  have HBB := Lib.hid hBB
  clear hBB
  go_loopw [4, 5] (fun nv iv wr => ∃ k : Nat, 1 ≤ k ∧ k ≤ s.size ∧ nv = .int .i64 (riN s.data.toList k) ∧ iv = .int .i64 (k : Int) ∧ Below B w wr) (fun _ iv _ => s.size - (intOf iv).toNat)
  case atStart => exact ⟨1, by omega, by omega, by rw [ER.out], rfl, hb⟩
  case round =>
    clear hb w8 w64 t0 hl0 hi0
    obtain ⟨k, hk1, hk, rfl, rfl, hb⟩ := hrel
    by_cases hlt : k < s.size
    · have hd : decide ((k : Int) < (s.size : Int)) = true := by simp; omega
      have hik : (k : Int) < (s.size : Int) := by omega
      have tk := HR.out k hlt
      have hbk := HL.out k
      obtain ⟨m0, m1⟩ := HS.out k (by omega)
      have ho := or_low8 (riN s.data.toList k) (rdB s.data.toList k) hbk m0 m1
      rw [← HN.out k] at ho
      obtain ⟨y, hy⟩ : ∃ y, riN s.data.toList (k + 1) = y := ⟨_, rfl⟩
      rw [hy] at ho
      have HY := Lib.hid hy
      clear hy
      have ws : IntKind.i64.wrap (riN s.data.toList k * 256) = riN s.data.toList k * 256 := by rw [IntKind.wrap_i64]; omega
      generalize riN s.data.toList k = m at *
      generalize rdB s.data.toList k = bk at *
      have wk : IntKind.i64.wrap (bk : Int) = (bk : Int) := by rw [IntKind.wrap_i64]; omega
      go_wp2_with fail
      go_roundw
      case rel => exact ⟨k + 1, by omega, by omega, by rw [HY.out], by go_num, hb⟩
      case measure => simp [intOf]; omega
    · have hd : decide ((k : Int) < (s.size : Int)) = false := by simp; omega
      obtain rfl : k = s.size := by omega
      obtain ⟨y, hy⟩ : ∃ y, riN s.data.toList s.size = y := ⟨_, rfl⟩
      rw [hy] at HV
      have HY := Lib.hid hy
      clear hy
      go_wp2_with fail
      go_ret2
      exact ⟨by rw [HV.out.1, HV.out.2, ← HY.out]; rfl, by rw [HBB.out]; exact hb⟩
/-- The eight bytes while they are laid, from the last one on. -/
def outI (n : Int) (k : Nat) : List UInt8 := List.replicate (8 - k) 0 ++ (b8L n).drop (8 - k)
theorem outI_length (n : Int) (k : Nat) (h : k ≤ 8) : (outI n k).length = 8 := by simp [outI, b8L_length] <;> omega
theorem outI_set (n : Int) (k : Nat) (h : k < 8) : (outI n k).set (7 - k) (byt8 n (7 - k)) = outI n (k + 1) := by
  have e : List.replicate (8 - k) (0 : UInt8) = List.replicate (8 - (k + 1)) 0 ++ [0] := by rw [show 8 - k = (8 - (k + 1)) + 1 by omega, List.replicate_succ']
  have hd : (b8L n).drop (8 - (k + 1)) = byt8 n (7 - k) :: (b8L n).drop (8 - k) := by
    have hj : 8 - (k + 1) < (b8L n).length := by rw [b8L_length]; omega
    rw [List.drop_eq_getElem_cons hj, show 8 - (k + 1) + 1 = 8 - k by omega]
    congr 1
    simp [b8L] <;> congr 1
  rw [outI, e, outI, hd, List.append_assoc, List.set_append, if_neg (by simp)]
  rw [List.length_replicate, show 7 - k - (8 - (k + 1)) = 0 by omega]
  rfl
theorem outI_full (n : Int) : outI n 8 = b8L n := by simp [outI]
theorem outI_none (n : Int) : outI n 0 = List.replicate 8 0 := by simp [outI, b8L_length]
def bzeros8 : Array Value := bcells (List.replicate 8 0)
theorem infoB8 : (Try.prog.info? 58).map (fun i => (i.zero, i.size)) = some (some (.agg bzeros8), 8) := by kernel_rfl
set_option maxHeartbeats 2000000 in
theorem bigEndian_any (n : Int) (w : World) (h0 : -9223372036854775808 ≤ n) (h1 : n ≤ 9223372036854775807) :
    Calls Try.prog 38 #[.int .i64 n] w fun e w' => e = .returned (.string ⟨(b8L n).toArray⟩) ∧ Below w.heap.size w w' := by
  obtain ⟨hz, hi⟩ := zero_of_info infoB8
  have HO0 := Lib.hid (blk_new w (.cells bzeros8 58))
  have hb0 := below_new w (.cells bzeros8 58)
  have HZ : Hid (bzeros8 = bcells (outI n 0)) := Lib.hid (by rw [outI_none]; rfl)
  clear hi
  go_enter Try.func38, Try.ntmps38
  go_wp2_with fail
  clear hz
  generalize (w.alloc _) = W0 at *
  generalize hBB : w.heap.size = B at *
  have HBB := Lib.hid hBB
  clear hBB
  go_loopw [5] (fun iv wr => ∃ k : Nat, k ≤ 8 ∧ iv = .int .i64 (k : Int) ∧ wr.heap[B]? = some (.cells (bcells (outI n k)) 58) ∧ Below B w wr) (fun iv _ => 8 - (intOf iv).toNat)
  case atStart => exact ⟨0, by omega, rfl, by rw [← HZ.out]; exact HO0.out, hb0⟩
  case round =>
    clear HO0 hb0 HZ
    obtain ⟨k, hk, rfl, ho, hb⟩ := hrel
    have HO := Lib.hid ho
    clear ho
    by_cases hlt : k < 8
    · have hd : decide ((k : Int) < 8) = true := by simp; omega
      obtain ⟨i, hii⟩ : ∃ i, i = 7 - k := ⟨_, rfl⟩
      have hi7 : (7 : Int) - (k : Int) = (i : Int) := by omega
      have hs := outI_set n k hlt
      have hby := byt8_val n (7 - k)
      rw [← hii] at hs hby
      have hps : (2 : Int) ^ (8 * k) = 256 ^ (7 - i) := by
        have := pow_shift (7 - k) (by omega)
        rw [← hii, show 8 * (7 - i) = 8 * k by omega] at this
        exact this
      rw [← hps] at hby
      generalize byt8 n i = b8 at *
      have r1 := bheap_set HO.out i b8
      rw [hs] at r1
      have co := bcell_at HO.out i (by rw [outI_length _ _ (by omega)]; omega)
      have fo := frozen_of_row wr B i _ _ HO.out
      have hi8 : i < 8 := by omega
      have hi8i : (i : Int) < 8 := by omega
      have wi : IntKind.i64.wrap (i : Int) = (i : Int) := by rw [IntKind.wrap_i64]; omega
      have hs0 : (0 : Int) ≤ 8 * (k : Int) := by omega
      have hw8 : IntKind.i64.wrap (8 * (k : Int)) = 8 * (k : Int) := by rw [IntKind.wrap_i64]; omega
      have hT : ((8 : Int) * (k : Int)).toNat = 8 * k := by omega
      have HO2 := Lib.hid r1
      have hb2 : Below B w (wr.setCell ⟨B, i, none⟩ (.int .u8 (b8.toNat : Int))) := hb.setCell (by simp) _
      have hv := hby.symm
      clear r1 hb hs hii hps hby
      go_wp2_with fail
      go_roundw
      case rel => exact ⟨k + 1, by omega, by go_num, HO2.out, hb2⟩
      case measure => simp [intOf]; omega
    · have hd : decide ((k : Int) < 8) = false := by simp; omega
      obtain rfl : k = 8 := by omega
      rw [outI_full] at HO
      have hl := b8L_length n
      have hc := run_string_row wr B 8 (b8L n) (cells_of_bcells HO.out)
      have sl := arr_sliced_all 58 8 B (by kernel_rfl) (by kernel_rfl) (by kernel_rfl) (by omega)
      rw [hl] at hc
      generalize hrow : b8L n = row at *
      have HROW := Lib.hid hrow
      clear hrow
      go_wp2_with fail
      go_ret
      exact ⟨by rw [HROW.out]; rfl, by rw [HBB.out]; exact hb⟩
theorem hn_true (c : ByteArray) (h : hnB c = true) : trimL (c.extract 1 c.size).data.toList = trimL c.data.toList ∧ 1 ≤ c.size := by
  have hb := (hn_iff c).1 h
  rw [suf_list]
  match hc : c.data.toList, hb with
  | [], hb => exact absurd hb.1 (by simp)
  | [_], hb => exact absurd hb.1 (by simp)
  | x :: y :: r, hb =>
    refine ⟨?_, by rw [Lib.size_eq, hc]; simp⟩
    rw [trim_step, if_pos ((riBad_two x y r).1 hb)]
    rfl
theorem hn_false (c : ByteArray) (h : hnB c = false) : trimL c.data.toList = c.data.toList := by
  have hb : ¬ riBad c.data.toList := fun hh => by rw [(hn_iff c).2 hh] at h; cases h
  match hc : c.data.toList, hb with
  | [], hb => rfl
  | [_], hb => rfl
  | x :: y :: r, hb => rw [trim_step, if_neg (fun hh => hb ((riBad_two x y r).2 hh))]
set_option maxHeartbeats 4000000 in
theorem int_any (n : Int) (w : World) (h0 : -9223372036854775808 ≤ n) (h1 : n ≤ 9223372036854775807) :
    Calls Try.prog 23 #[.int .i64 n] w fun e w' => e = .returned (.string (wrX 2 (intB n))) ∧ Below w.heap.size w w' := by
  have CB := Lib.hid (fun W => bigEndian_any n W h0 h1)
  have HW : Hid (wrX 2 (intB n) = ⟨(wrL ((2 : Nat) : Int) (intB n).size).toArray⟩ ++ intB n) := Lib.hid (by rw [wrX, if_pos (int_wr n)]; rfl)
  have hsz := intB_size n
  have CE := Lib.hid (fun W => element_any 2 (intB n) W (by omega) (by omega))
  have HL : Hid ((⟨(b8L n).toArray⟩ : ByteArray).data.toList = b8L n) := Lib.hid rfl
  have hz8 : (⟨(b8L n).toArray⟩ : ByteArray).size = 8 := b8L_length n
  have HI : Hid (∀ c : ByteArray, hnB c = false → trimL c.data.toList = trimL (b8L n) → c = intB n) := Lib.hid (fun c hc ht => by
    rw [intB, ← ht, hn_false c hc])
  have hb := Below.refl w.heap.size w
  rw [HW.out]
  generalize (⟨(wrL ((2 : Nat) : Int) (intB n).size).toArray⟩ ++ intB n : ByteArray) = o at *
  generalize intB n = ib at *
  generalize (⟨(b8L n).toArray⟩ : ByteArray) = sb at *
  generalize b8L n = L at *
  clear h0 h1 HW hsz
  go_enter Try.func23, Try.ntmps23
  go_wp2_with fail
  refine (CB.out _).mono ?_
  rintro e W1 ⟨rfl, bk⟩
  replace hb := hb.trans (bk.mono hb.size)
  clear bk CB
  go_wp2_with fail
  have hB := hb.size
  generalize hBB : w.heap.size = B at *
  have HBB := Lib.hid hBB
  clear hBB
  go_loopw [3] (fun v wr => ∃ c : ByteArray, v = .string c ∧ Hid (trimL c.data.toList = trimL L) ∧ Below B w wr ∧ B ≤ wr.heap.size) (fun v _ => (match v with | .string c => c.size | _ => 0))
  case atStart => exact ⟨sb, rfl, Lib.hid (by rw [HL.out]), hb, hB⟩
  case round =>
    clear hb hB hz8 HL
    obtain ⟨c, rfl, HT, hb, hB⟩ := hrel
    have CN := Lib.hid (fun W => hasNeedless_any c W)
    cases hq : hnB c with
    | true =>
      obtain ⟨ht, h1⟩ := hn_true c hq
      rw [hq] at CN
      have i1 : (1 : Int) ≤ (c.size : Int) := by omega
      have HT2 := Lib.hid (ht.trans HT.out)
      have HM : Hid ((c.extract 1 c.size).size < c.size) := Lib.hid (by rw [suf_size]; omega)
      clear ht hq HT
      go_wp2_with fail
      refine (CN.out _).mono ?_
      rintro e W2 ⟨rfl, bk⟩
      replace hb := hb.trans (bk.mono hB)
      replace hB := Nat.le_trans hB bk.size
      clear bk CN
      go_wp2_with fail
      go_roundw
      case rel => exact ⟨_, rfl, HT2, hb, hB⟩
      case measure => exact HM.out
    | false =>
      obtain rfl := HI.out c hq HT.out
      rw [hq] at CN
      clear HT hq HI
      go_wp2_with fail
      refine (CN.out _).mono ?_
      rintro e W2 ⟨rfl, bk⟩
      replace hb := hb.trans (bk.mono hB)
      replace hB := Nat.le_trans hB bk.size
      clear bk CN
      go_wp2_with fail
      refine (CE.out _).mono ?_
      rintro e W3 ⟨rfl, bk⟩
      replace hb := hb.trans (bk.mono hB)
      clear bk CE
      go_wp2_with fail
      go_ret
      exact ⟨rfl, by rw [HBB.out]; exact hb⟩
end Go.Proofs.Ytimokmhgpigliaa
