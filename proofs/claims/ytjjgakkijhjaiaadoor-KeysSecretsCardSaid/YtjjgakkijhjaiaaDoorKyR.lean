/- The key schedule's functions: the reference's. -/
import Derived.Test.YtjjgakkijhjaiaaDoorKyA
import Derived.Test.YtjjgakkijhjaiaaDoorMacR
import Derived.Laws.MakeOwn
import Derived.Test.YtjjgakkijhjaiaaDoorToldG
namespace Go.Proofs.YtjjgakkijhjaiaaDoor
open Go.RowKit Go.Sort
set_option maxRecDepth 100000
set_option linter.unusedSimpArgs false
set_option linter.unusedVariables false

theorem ky_make (W : World) (n : Nat) (hn : n ≤ 1048576) : (Instr.makeSlice 38 (.int .i64 (n : Int)) (.int .i64 (n : Int))).run Tryd.prog W = .ok (.slice (some ⟨W.heap.size, 0, none⟩) n n) (W.alloc (.cells (bcells (List.replicate n 0)) 5)) := by
  obtain ⟨i0, hi, hz0, hz1, hz2⟩ := info_parts info_u8
  have h := run_makeSlice W 38 5 i0 (.int .u8 0) Tryd.underlying38 hi hz0 .i64 .i64 n n (by omega) (by omega) (by rw [hz1]; omega) (by rw [hz2]; omega) (by omega)
  rw [hz1, made_zero, Int.toNat_natCast, Nat.mul_one] at h
  exact h
theorem ky_make32 (W : World) : (Instr.makeSlice 38 (.int .i64 32) (.int .i64 32)).run Tryd.prog W = .ok (.slice (some ⟨W.heap.size, 0, none⟩) 32 32) (W.alloc (.cells (bcells (List.replicate 32 0)) 5)) := ky_make W 32 (by decide)
theorem ky_zeros (W : World) : (convert 38 9 (.slice (some ⟨W.heap.size, 0, none⟩) 32 32)).run Tryd.prog (W.alloc (.cells (bcells (List.replicate 32 0)) 5)) = .ok (.string zB) (W.alloc (.cells (bcells (List.replicate 32 0)) 5)) :=
  run_string_row _ W.heap.size 32 (List.replicate 32 0) (cells_of_bcells (blk_new W _))
theorem rsize_any (n : Int) (w : World) :
    Calls Tryd.prog 39 #[.int .i64 n] w fun e w' => e = .returned (.int .i64 (sizeK n : Int)) ∧ Below w.heap.size w w' := by
  have hb := Below.refl w.heap.size w
  by_cases h1 : n = 4865
  · subst h1
    go_enter Tryd.func39, Tryd.ntmps39
    go_wp2_with fail
    go_ret
    exact ⟨rfl, hb⟩
  · have d1 : (n == 4865) = false := by simpa using h1
    by_cases h2 : n = 4867
    · subst h2
      go_enter Tryd.func39, Tryd.ntmps39
      go_wp2_with fail
      go_ret
      exact ⟨rfl, hb⟩
    · have d2 : (n == 4867) = false := by simpa using h2
      have HS : Hid (sizeK n = 0) := Lib.hid (by rw [sizeK, if_neg h1, if_neg h2])
      rw [HS.out]
      go_enter Tryd.func39, Tryd.ntmps39
      go_wp2_with fail
      go_ret
      exact ⟨rfl, hb⟩
set_option maxHeartbeats 1000000 in
theorem rlabel_any (s l : ByteArray) (n : Nat) (w : World) (hs : s.size ≤ 1000000) (hl : l.size ≤ 249) (hn : n ≤ 8160) :
    Calls Tryd.prog 40 #[.string s, .string l, .int .i64 (n : Int)] w fun e w' => e = .returned (.string (labB s l kE n)) ∧ Below w.heap.size w w' := by
  have hb := Below.refl w.heap.size w
  have CL := Lib.hid (fun W => refLabel_any s l kE n W hs hl (by decide) hn)
  clear hs hl hn
  go_enter Tryd.func40, Tryd.ntmps40
  go_wp2_with fail
  refine (CL.out _).mono ?_
  rintro e W' ⟨rfl, bk⟩
  replace hb := hb.trans (bk.mono hb.size)
  clear bk CL
  go_wp2_with fail
  go_ret
  exact ⟨rfl, hb⟩
set_option maxHeartbeats 1000000 in
theorem rsecGood_any (f l s : ByteArray) (w : World) (hf1 : f.size ≤ 1000000) (hl : l.size ≤ 249) (hs : s.size ≤ 1000000) :
    Calls Tryd.prog 13 #[.string f, .string l, .string s] w fun e w' => e = .returned (.tuple #[.string (labB f l (shaB s) 32), .int .i64 0]) ∧ Below w.heap.size w w' := by
  have hb := Below.refl w.heap.size w
  have CS := Lib.hid (fun W => refSum32_any s W (by omega))
  have CL := Lib.hid (fun W => refLabel_any f l (shaB s) 32 W hf1 hl (by rw [shaB_size]; decide) (by decide))
  clear hf1 hl hs
  go_enter Tryd.func13, Tryd.ntmps13
  go_wp2_with fail
  refine (CS.out _).mono ?_
  rintro e W' ⟨rfl, bk⟩
  replace hb := hb.trans (bk.mono hb.size)
  clear bk CS
  go_wp2_with fail
  refine (CL.out _).mono ?_
  rintro e W' ⟨rfl, bk⟩
  replace hb := hb.trans (bk.mono hb.size)
  clear bk CL
  go_wp2_with fail
  go_ret2
  exact ⟨rfl, hb⟩
set_option maxHeartbeats 1000000 in
theorem rsecBad_any (f l s : ByteArray) (w : World) (hl : 249 < l.size) (hs : s.size ≤ 1000000) :
    Calls Tryd.prog 13 #[.string f, .string l, .string s] w fun e w' => e = .returned (.tuple #[.string kE, .int .i64 13]) ∧ Below w.heap.size w w' := by
  have hb := Below.refl w.heap.size w
  have CS := Lib.hid (fun W => refSum32_any s W (by omega))
  have CL := Lib.hid (fun W => refLabelBig_any f l (shaB s) 32 W (by decide) (.inl hl))
  clear hl hs
  go_enter Tryd.func13, Tryd.ntmps13
  go_wp2_with fail
  refine (CS.out _).mono ?_
  rintro e W' ⟨rfl, bk⟩
  replace hb := hb.trans (bk.mono hb.size)
  clear bk CS
  go_wp2_with fail
  refine (CL.out _).mono ?_
  rintro e W' ⟨rfl, bk⟩
  replace hb := hb.trans (bk.mono hb.size)
  clear bk CL
  go_wp2_with fail
  go_ret2
  exact ⟨rfl, hb⟩
theorem rsecret_any (f l s : ByteArray) (w : World) (hf1 : f.size ≤ 1000000) (hs : s.size ≤ 1000000) :
    Calls Tryd.prog 13 #[.string f, .string l, .string s] w fun e w' => e = .returned (.tuple #[.string (secX f l s), .int .i64 (secE l)]) ∧ Below w.heap.size w w' := by
  by_cases h : 249 < l.size
  · rw [secX, secE, if_pos h, if_pos h]; exact rsecBad_any f l s w h hs
  · rw [secX, secE, if_neg h, if_neg h]; exact rsecGood_any f l s w hf1 (by omega) hs
set_option maxHeartbeats 1000000 in
theorem rderived_any (f : ByteArray) (w : World) (hf1 : f.size ≤ 1000000) :
    Calls Tryd.prog 36 #[.string f] w fun e w' => e = .returned (.string (derB f)) ∧ Below w.heap.size w w' := by
  have hb := Below.refl w.heap.size w
  have CS := Lib.hid (fun W => rsecGood_any f wDerived kE W hf1 (by decide) (by decide))
  clear hf1
  go_enter Tryd.func36, Tryd.ntmps36
  go_wp2_with fail
  refine (CS.out _).mono ?_
  rintro e W' ⟨rfl, bk⟩
  replace hb := hb.trans (bk.mono hb.size)
  clear bk CS
  go_wp2_with fail
  go_ret
  exact ⟨rfl, hb⟩
set_option maxHeartbeats 1000000 in
theorem rearly_any (w : World) :
    Calls Tryd.prog 16 #[] w fun e w' => e = .returned (.string erlB) ∧ Below w.heap.size w w' := by
  have hb := Below.refl w.heap.size w
  have hmk := ky_make32 w
  have hcv := ky_zeros w
  replace hb := below_new w (.cells (bcells (List.replicate 32 0)) 5)
  generalize bcells (List.replicate 32 0) = zc at *
  have CX := Lib.hid (fun W => refExtract_any kE zB W (by decide) (by decide))
  go_enter Tryd.func16, Tryd.ntmps16
  go_wp2_with fail
  refine (CX.out _).mono ?_
  rintro e W' ⟨rfl, bk⟩
  replace hb := hb.trans (bk.mono hb.size)
  clear bk CX
  go_wp2_with fail
  go_ret
  exact ⟨rfl, hb⟩
set_option maxHeartbeats 1000000 in
theorem rhandshake_any (s : ByteArray) (w : World) (hs : s.size ≤ 1000000) :
    Calls Tryd.prog 17 #[.string s] w fun e w' => e = .returned (.string (hsB s)) ∧ Below w.heap.size w w' := by
  have hb := Below.refl w.heap.size w
  have CE := Lib.hid (fun W => rearly_any W)
  have hz := macB_size kE zB
  have CD := Lib.hid (fun W => rderived_any erlB W (by rw [erlB, hz]; decide))
  have hy : (derB erlB).size = 32 := labB_size _ _ _ _
  have CX := Lib.hid (fun W => refExtract_any (derB erlB) s W (by omega) hs)
  have HH : Hid (hsB s = ⟨(mac32 (derB erlB).data.toList s.data.toList).toArray⟩) := Lib.hid rfl
  generalize derB erlB = y at *
  generalize hsB s = r at *
  clear hs hz hy
  go_enter Tryd.func17, Tryd.ntmps17
  go_wp2_with fail
  refine (CE.out _).mono ?_
  rintro e W' ⟨rfl, bk⟩
  replace hb := hb.trans (bk.mono hb.size)
  clear bk CE
  go_wp2_with fail
  refine (CD.out _).mono ?_
  rintro e W' ⟨rfl, bk⟩
  replace hb := hb.trans (bk.mono hb.size)
  clear bk CD
  go_wp2_with fail
  refine (CX.out _).mono ?_
  rintro e W' ⟨rfl, bk⟩
  replace hb := hb.trans (bk.mono hb.size)
  clear bk CX
  go_wp2_with fail
  go_ret
  exact ⟨by rw [HH.out]; rfl, hb⟩
/-- A new slice of 32 noughts. -/
def tZer : Told := ⟨fun w v => ∃ g, v = .slice (some ⟨g, 0, none⟩) 32 32 ∧ w.heap[g]? = some (.cells (bcells (List.replicate 32 0)) 5), fun w w' v hb ⟨g, e, h⟩ => ⟨g, e, blk_below hb (blk_lt h) h⟩⟩
theorem zer_text (W : World) (g : Nat) (h : W.heap[g]? = some (.cells (bcells (List.replicate 32 0)) 5)) : (convert 38 9 (.slice (some ⟨g, 0, none⟩) 32 32)).run Tryd.prog W = .ok (.string zB) W :=
  run_string_row W g 32 (List.replicate 32 0) (cells_of_bcells h)
set_option maxHeartbeats 2000000 in
theorem rmaster_any (s : ByteArray) (w : World) (hs : s.size ≤ 1000000) :
    Calls Tryd.prog 19 #[.string s] w fun e w' => e = .returned (.string (maB s)) ∧ Below w.heap.size w w' := by
  have CD := Lib.hid (fun W => rderived_any s W hs)
  have hy : (derB s).size = 32 := labB_size _ _ _ _
  have CX := Lib.hid (fun W => (show Calls Tryd.prog 35 #[.string (derB s), .string zB] W fun e w' => e = .returned (.string (maB s)) ∧ Below W.heap.size W w' from refExtract_any (derB s) zB W (by omega) (by decide)))
  generalize derB s = y at *
  generalize maB s = r at *
  clear hs hy
  go_enter Tryd.func19, Tryd.ntmps19
  go_wp2_with fail
  refine wp_region_told 5 8 [(Told.val (.string s), [0]),
    (Told.val (.string y), [3]),
    (tZer, []),
    (Told.val (.string zB), [5]),
    (Told.val (.string r), [4, 6])]
    (by kernel_rfl) (by kernel_rfl) rfl ?_ ?_
  · simp only [List.take_succ_cons, List.take_zero, toldObl, and_true]
    refine And.intro ?_ (And.intro ?_ (And.intro ?_ (And.intro ?_ (?_))))
    · intro a w hb h
      have e0 : a.tmps.getD 0 undef = .string s := h 0 (by simp)
      simp only [Array.getD_eq_getD_getElem?] at e0
      refine told_q ?_
      simp [go_sem, e0, sQuiet]
    · intro a w hb h
      have e0 : a.tmps.getD 3 undef = .string s := h 3 (by simp)
      simp only [Array.getD_eq_getD_getElem?] at e0
      refine told_q ?_
      simp [go_sem, e0, sQuiet]
      exact CD.out _
    · intro a w hb h
      have hm32 := ky_make32 w
      simp [go_sem, toldQuiet, hm32]
      exact ⟨below_new _ _, _, rfl, blk_new _ _⟩
    · intro a w hb h
      have t0 := h 5 (by simp)
      replace t0 : (tZer).T w (a.tmps.getD 5 undef) := t0
      obtain ⟨g0, e0, h0⟩ := t0
      have hcv := zer_text w g0 h0
      simp only [Array.getD_eq_getD_getElem?] at e0
      refine told_q ?_
      simp [go_sem, e0, sQuiet, hcv]
    · intro a w hb h
      have e0 : a.tmps.getD 4 undef = .string y := h 4 (by simp)
      have e1 : a.tmps.getD 6 undef = .string zB := h 6 (by simp)
      simp only [Array.getD_eq_getD_getElem?] at e0 e1
      refine told_q ?_
      simp [go_sem, e0, e1, sQuiet]
      exact CX.out _
  simp only [List.take_succ_cons, List.take_zero, List.drop_succ_cons, List.drop_zero, toldEnd, Act.put, List.setIfInBounds_toArray, List.set_cons_succ, List.set_cons_zero]
  rintro X bk v3 q3 v4 q4 v5 q5 v6 q6 v7 q7
  obtain rfl := q3.symm
  obtain rfl := q4.symm
  obtain rfl := q6.symm
  obtain rfl := q7.symm
  clear q3 q4 q6 q7
  clear q5
  go_wp2_with fail
  go_ret
  exact ⟨rfl, bk⟩
set_option maxHeartbeats 1000000 in
theorem rtraNo_any (n : Int) (s : ByteArray) (w : World) (h : sizeK n = 0) :
    Calls Tryd.prog 21 #[.int .i64 n, .string s] w fun e w' => e = .returned (.tuple #[.string kE, .string kE, .int .i64 1]) ∧ Below w.heap.size w w' := by
  have hb := Below.refl w.heap.size w
  have CZ := Lib.hid (fun W => rsize_any n W)
  rw [h] at CZ
  clear h
  go_enter Tryd.func21, Tryd.ntmps21
  go_wp2_with fail
  refine (CZ.out _).mono ?_
  rintro e W' ⟨rfl, bk⟩
  replace hb := hb.trans (bk.mono hb.size)
  clear bk CZ
  go_wp2_with fail
  go_ret3
  exact ⟨rfl, hb⟩
set_option maxHeartbeats 1000000 in
theorem rtraYes_any (n : Int) (s : ByteArray) (w : World) (h : sizeK n ≠ 0) (hs : s.size ≤ 1000000) :
    Calls Tryd.prog 21 #[.int .i64 n, .string s] w fun e w' => e = .returned (.tuple #[.string (labB s wKey kE (sizeK n)), .string (labB s wIv kE 12), .int .i64 0]) ∧ Below w.heap.size w w' := by
  have hb := Below.refl w.heap.size w
  have CZ := Lib.hid (fun W => rsize_any n W)
  have hz : sizeK n ≤ 32 := by unfold sizeK; split; · decide
                               split <;> decide
  have CK := Lib.hid (fun W => rlabel_any s wKey (sizeK n) W hs (by decide) (by omega))
  have CI := Lib.hid (fun W => rlabel_any s wIv 12 W hs (by decide) (by decide))
  generalize sizeK n = z at *
  have e0 : ((z : Int) == 0) = false := by rw [beq_eq_false_iff_ne]; omega
  have n0 : ¬ z = 0 := h
  clear h hs hz
  go_enter Tryd.func21, Tryd.ntmps21
  go_wp2_with fail
  refine (CZ.out _).mono ?_
  rintro e W' ⟨rfl, bk⟩
  replace hb := hb.trans (bk.mono hb.size)
  clear bk CZ
  go_wp2_with fail
  refine (CK.out _).mono ?_
  rintro e W' ⟨rfl, bk⟩
  replace hb := hb.trans (bk.mono hb.size)
  clear bk CK
  go_wp2_with fail
  refine (CI.out _).mono ?_
  rintro e W' ⟨rfl, bk⟩
  replace hb := hb.trans (bk.mono hb.size)
  clear bk CI
  go_wp2_with fail
  go_ret3
  exact ⟨rfl, hb⟩
theorem rtraffic_any (n : Int) (s : ByteArray) (w : World) (hs : s.size ≤ 1000000) :
    Calls Tryd.prog 21 #[.int .i64 n, .string s] w fun e w' => e = .returned (.tuple #[.string (traX n s), .string (traI n s), .int .i64 (traE n)]) ∧ Below w.heap.size w w' := by
  by_cases h : sizeK n = 0
  · rw [traX, traI, traE, if_pos h, if_pos h, if_pos h]; exact rtraNo_any n s w h
  · rw [traX, traI, traE, if_neg h, if_neg h, if_neg h]; exact rtraYes_any n s w h hs
set_option maxHeartbeats 1000000 in
theorem rnext_any (s : ByteArray) (w : World) (hs : s.size ≤ 1000000) :
    Calls Tryd.prog 23 #[.string s] w fun e w' => e = .returned (.string (nxB s)) ∧ Below w.heap.size w w' := by
  have hb := Below.refl w.heap.size w
  have CL := Lib.hid (fun W => rlabel_any s wUpd 32 W hs (by decide) (by decide))
  clear hs
  go_enter Tryd.func23, Tryd.ntmps23
  go_wp2_with fail
  refine (CL.out _).mono ?_
  rintro e W' ⟨rfl, bk⟩
  replace hb := hb.trans (bk.mono hb.size)
  clear bk CL
  go_wp2_with fail
  go_ret
  exact ⟨rfl, hb⟩
set_option maxHeartbeats 1000000 in
theorem rtag_any (s d : ByteArray) (w : World) (hs : s.size ≤ 1000000) (hd : d.size ≤ 1000000) :
    Calls Tryd.prog 25 #[.string s, .string d] w fun e w' => e = .returned (.string (tagB s d)) ∧ Below w.heap.size w w' := by
  have hb := Below.refl w.heap.size w
  have CL := Lib.hid (fun W => rlabel_any s wFin 32 W hs (by decide) (by decide))
  have CS := Lib.hid (fun W => refSum32_any d W (by omega))
  have h1 := labB_size s wFin kE 32
  have h2 := shaB_size d
  have CM := Lib.hid (fun W => refMac32_any (labB s wFin kE 32) (shaB d) W (by omega) (by omega))
  have HH : Hid (tagB s d = ⟨(mac32 (labB s wFin kE 32).data.toList (shaB d).data.toList).toArray⟩) := Lib.hid rfl
  generalize tagB s d = r at *
  clear hs hd h1 h2
  go_enter Tryd.func25, Tryd.ntmps25
  go_wp2_with fail
  refine (CL.out _).mono ?_
  rintro e W' ⟨rfl, bk⟩
  replace hb := hb.trans (bk.mono hb.size)
  clear bk CL
  go_wp2_with fail
  refine (CS.out _).mono ?_
  rintro e W' ⟨rfl, bk⟩
  replace hb := hb.trans (bk.mono hb.size)
  clear bk CS
  go_wp2_with fail
  refine (CM.out _).mono ?_
  rintro e W' ⟨rfl, bk⟩
  replace hb := hb.trans (bk.mono hb.size)
  clear bk CM
  go_wp2_with fail
  go_ret
  exact ⟨by rw [HH.out]; rfl, hb⟩
theorem sp_more (k : Nat) : spB k ++ ⟨#[32]⟩ = spB (k + 1) := by
  apply ByteArray.ext
  apply Array.toList_inj.1
  rw [ByteArray.data_append, Array.toList_append]
  show List.replicate k 32 ++ [32] = List.replicate (k + 1) 32
  rw [List.replicate_succ']
set_option maxHeartbeats 2000000 in
theorem rsigned_true (s : ByteArray) (w : World) (hs : s.size ≤ 1000000) :
    Calls Tryd.prog 27 #[.bool true, .string s] w fun e w' => e = .returned (.string (sigB true s)) ∧ Below w.heap.size w w' := by
  have hb := Below.refl w.heap.size w
  have CS := Lib.hid (fun W => refSum32_any s W (by omega))
  have HH : Hid (sigB true s = spB 64 ++ wTls ++ wWho true ++ wVer ++ ⟨(sha256L kf hf s.data.toList).toArray⟩) := Lib.hid rfl
  have hz := shaB_size s
  rw [shaB] at hz
  have HM := Lib.hid sp_more
  have HZ := Lib.hid spB_size
  clear hs
  go_enter Tryd.func27, Tryd.ntmps27
  go_wp2_with fail
  generalize hBB : w.heap.size = B at *
  have HBB := Lib.hid hBB
  clear hBB
  go_loopw [6, 7] (fun ov iv wr => ∃ k : Nat, k ≤ 64 ∧ iv = .int .i64 (k : Int) ∧ ov = .string (spB k) ∧ Below B w wr) (fun _ iv _ => 64 - (intOf iv).toNat)
  case atStart => exact ⟨0, by omega, rfl, rfl, hb⟩
  case round =>
    clear hb
    obtain ⟨k, hk, rfl, rfl, hb⟩ := hrel
    by_cases hlt : k < 64
    · have hd : decide ((k : Int) < 64) = true := by simp; omega
      have hm := HM.out k
      have hz1 := HZ.out k
      generalize spB k = t at *
      have hz2 : t.size + 1 ≤ 9223372036854775807 := by omega
      clear HM HZ
      go_wp2_with fail
      go_roundw
      case rel => exact ⟨k + 1, by omega, by go_num, by rw [← hm], hb⟩
      case measure => simp [intOf]; omega
    · have hd : decide ((k : Int) < 64) = false := by simp; omega
      obtain rfl : k = 64 := by omega
      have hz1 := HZ.out 64
      generalize spB 64 = t at *
      have hz2 : t.size + 9 ≤ 9223372036854775807 := by omega
      have hz3 : t.size + 9 + 6 ≤ 9223372036854775807 := by omega
      have hz4 : t.size + 9 + 6 + 19 ≤ 9223372036854775807 := by omega
      generalize hq : (⟨(sha256L kf hf s.data.toList).toArray⟩ : ByteArray) = q at *
      have hz5 : t.size + 9 + 6 + 19 + q.size ≤ 9223372036854775807 := by omega
      clear HM HZ
      go_wp2_with fail
      refine (CS.out _).mono ?_
      rintro e W' ⟨rfl, bk⟩
      have hb2 := hb.trans (bk.mono (by have := hb.size; have := HBB.out; omega))
      clear bk CS
      go_wp2_with fail
      go_ret
      exact ⟨by rw [HH.out]; rfl, by rw [HBB.out]; exact hb2⟩
set_option maxHeartbeats 2000000 in
theorem rsigned_false (s : ByteArray) (w : World) (hs : s.size ≤ 1000000) :
    Calls Tryd.prog 27 #[.bool false, .string s] w fun e w' => e = .returned (.string (sigB false s)) ∧ Below w.heap.size w w' := by
  have hb := Below.refl w.heap.size w
  have CS := Lib.hid (fun W => refSum32_any s W (by omega))
  have HH : Hid (sigB false s = spB 64 ++ wTls ++ wWho false ++ wVer ++ ⟨(sha256L kf hf s.data.toList).toArray⟩) := Lib.hid rfl
  have hz := shaB_size s
  rw [shaB] at hz
  have HM := Lib.hid sp_more
  have HZ := Lib.hid spB_size
  clear hs
  go_enter Tryd.func27, Tryd.ntmps27
  go_wp2_with fail
  generalize hBB : w.heap.size = B at *
  have HBB := Lib.hid hBB
  clear hBB
  go_loopw [6, 7] (fun ov iv wr => ∃ k : Nat, k ≤ 64 ∧ iv = .int .i64 (k : Int) ∧ ov = .string (spB k) ∧ Below B w wr) (fun _ iv _ => 64 - (intOf iv).toNat)
  case atStart => exact ⟨0, by omega, rfl, rfl, hb⟩
  case round =>
    clear hb
    obtain ⟨k, hk, rfl, rfl, hb⟩ := hrel
    by_cases hlt : k < 64
    · have hd : decide ((k : Int) < 64) = true := by simp; omega
      have hm := HM.out k
      have hz1 := HZ.out k
      generalize spB k = t at *
      have hz2 : t.size + 1 ≤ 9223372036854775807 := by omega
      clear HM HZ
      go_wp2_with fail
      go_roundw
      case rel => exact ⟨k + 1, by omega, by go_num, by rw [← hm], hb⟩
      case measure => simp [intOf]; omega
    · have hd : decide ((k : Int) < 64) = false := by simp; omega
      obtain rfl : k = 64 := by omega
      have hz1 := HZ.out 64
      generalize spB 64 = t at *
      have hz2 : t.size + 9 ≤ 9223372036854775807 := by omega
      have hz3 : t.size + 9 + 6 ≤ 9223372036854775807 := by omega
      have hz4 : t.size + 9 + 6 + 19 ≤ 9223372036854775807 := by omega
      generalize hq : (⟨(sha256L kf hf s.data.toList).toArray⟩ : ByteArray) = q at *
      have hz5 : t.size + 9 + 6 + 19 + q.size ≤ 9223372036854775807 := by omega
      clear HM HZ
      go_wp2_with fail
      refine (CS.out _).mono ?_
      rintro e W' ⟨rfl, bk⟩
      have hb2 := hb.trans (bk.mono (by have := hb.size; have := HBB.out; omega))
      clear bk CS
      go_wp2_with fail
      go_ret
      exact ⟨by rw [HH.out]; rfl, by rw [HBB.out]; exact hb2⟩
theorem rsigned_any (b : Bool) (s : ByteArray) (w : World) (hs : s.size ≤ 1000000) :
    Calls Tryd.prog 27 #[.bool b, .string s] w fun e w' => e = .returned (.string (sigB b s)) ∧ Below w.heap.size w w' := by
  cases b
  · exact rsigned_false s w hs
  · exact rsigned_true s w hs
end Go.Proofs.YtjjgakkijhjaiaaDoor
