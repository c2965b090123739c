/- Package record: boxes: NewBox, Count, nonce, padded, unpadded. -/
import Derived.Test.YtffnafikegakcaaGreatDoorRbA
import Derived.Test.YtffnafikegakcaaGreatDoorRbClone
import Derived.Test.YtffnafikegakcaaGreatDoorRcAwake
import Derived.Test.YtffnafikegakcaaGreatDoorToldG
import Derived.Test.YtffnafikegakcaaGreatDoorLibs
namespace Go.Proofs.YtffnafikegakcaaGreatDoor
open Go.RowKit Go.Sort
set_option maxRecDepth 100000
set_option linter.unusedSimpArgs false
set_option linter.unusedVariables false

/-- What a box's cells are. -/
def bxC (s : BSt) : Array Value := #[.int .i64 s.suite, .string s.key, .string s.iv, .int .i64 (s.n : Int)]
/-- Block b holds a box that stands so. -/
def BxAt (w : World) (b : Nat) (s : BSt) : Prop := w.heap[b]? = some (.cells (bxC s) 57)
theorem BxAt.below {w w' : World} {b : Nat} {s : BSt} (h : BxAt w b s) (hb : Below w.heap.size w w') : BxAt w' b s := blk_below hb (blk_lt h) h
theorem bx_cells {w : World} {b : Nat} {s : BSt} (h : BxAt w b s) : w.cell? ⟨b, 0, none⟩ = some (.int .i64 s.suite) ∧ w.cell? ⟨b, 1, none⟩ = some (.string s.key) ∧ w.cell? ⟨b, 2, none⟩ = some (.string s.iv) ∧ w.cell? ⟨b, 3, none⟩ = some (.int .i64 (s.n : Int)) ∧ w.frozen? ⟨b, 3, none⟩ = false := by
  refine ⟨?_, ?_, ?_, ?_, frozen_of_row w _ _ _ _ h⟩ <;> rw [cell_of_row w _ _ _ _ _ h] <;> rfl
theorem bx_next {w : World} {b : Nat} {s : BSt} (h : BxAt w b s) : BxAt (w.setCell ⟨b, 3, none⟩ (.int .i64 ((s.n : Int) + 1))) b (nxtB s) := heap_setCell_same _ _ _ _ _ _ h

theorem count_any (b : Nat) (s : BSt) (w : World) (h : BxAt w b s) :
    Calls Tryz.prog 15 #[.pointer (some ⟨b, 0, none⟩)] w fun e w' => e = .returned (.int .i64 (s.n : Int)) ∧ w = w' := by
  obtain ⟨c0, c1, c2, c3, f3⟩ := bx_cells h
  clear h
  go_enter Tryz.func15, Tryz.ntmps15
  go_wp2_with fail
  go_ret
  exact ⟨rfl, rfl⟩
theorem countNil_any (w : World) : Calls Tryz.prog 15 #[.pointer none] w fun e w' => e = .returned (.int .i64 0) ∧ w = w' := by
  go_enter Tryz.func15, Tryz.ntmps15
  go_wp2_with fail
  go_ret
  exact ⟨rfl, rfl⟩
theorem sealNil_any (k p : Int) (t : ByteArray) (w : World) : Calls Tryz.prog 11 #[.pointer none, .int .i64 k, .string t, .int .i64 p] w fun e w' => e = .returned (.tuple #[.string emB, .int .i64 2]) ∧ w = w' := by
  go_enter Tryz.func11, Tryz.ntmps11
  go_wp2_with fail
  go_ret2
  exact ⟨rfl, rfl⟩
theorem openNil_any (t : ByteArray) (w : World) : Calls Tryz.prog 13 #[.pointer none, .string t] w fun e w' => e = .returned (.tuple #[.int .i64 0, .string emB, .int .i64 2]) ∧ w = w' := by
  go_enter Tryz.func13, Tryz.ntmps13
  go_wp2_with fail
  go_ret3
  exact ⟨rfl, rfl⟩

/-- What NewBox refuses. -/
def newE (su : Int) (k i : ByteArray) : Int := if sizeS su = 0 then 1 else if (k.size : Int) ≠ sizeS su then 21 else if i.size ≠ 12 then 21 else 0
theorem new_ok (su : Int) (k i : ByteArray) (h : newE su k i = 0) : BOk ⟨su, k, i, 0⟩ := by
  unfold newE at h
  by_cases h1 : sizeS su = 0
  · rw [if_pos h1] at h; exact absurd h (by decide)
  rw [if_neg h1] at h
  by_cases h2 : (k.size : Int) ≠ sizeS su
  · rw [if_pos h2] at h; exact absurd h (by decide)
  rw [if_neg h2] at h
  by_cases h3 : i.size ≠ 12
  · rw [if_pos h3] at h; exact absurd h (by decide)
  refine ⟨?_, Classical.not_not.1 h3, Nat.zero_le _⟩
  have h4 := Classical.not_not.1 h2
  unfold sizeS at h4 h1
  by_cases e1 : su = 4865
  · rw [if_pos e1] at h4; exact .inl ⟨e1, by show k.size = 16; omega⟩
  · rw [if_neg e1] at h4 h1
    by_cases e2 : su = 4867
    · rw [if_pos e2] at h4; exact .inr ⟨e2, by show k.size = 32; omega⟩
    · rw [if_neg e2] at h1; exact absurd rfl h1
set_option maxHeartbeats 2000000 in
theorem newBoxBad_any (su : Int) (k i : ByteArray) (w : World) (h : newE su k i ≠ 0) :
    Calls Tryz.prog 8 #[.int .i64 su, .string k, .string i] w fun e w' => e = .returned (.tuple #[.pointer none, .int .i64 (newE su k i)]) ∧ w = w' := by
  have CS := Lib.hid (fun W => sSize_any su W)
  unfold newE at h ⊢
  by_cases h1 : sizeS su = 0
  · have d1 : (sizeS su == 0) = true := by rw [h1]; rfl
    rw [if_pos h1]
    generalize sizeS su = z at *
    clear h h1
    go_enter Tryz.func8, Tryz.ntmps8
    go_wp2_with fail
    refine (CS.out w).mono ?_
    rintro e W ⟨rfl, rfl⟩
    go_wp2_with fail
    go_ret2
    exact ⟨rfl, rfl⟩
  have d1 : (sizeS su == 0) = false := by rw [beq_eq_false_iff_ne]; exact h1
  rw [if_neg h1] at h ⊢
  by_cases h2 : (k.size : Int) ≠ sizeS su
  · have d2 : ((k.size : Int) != sizeS su) = true := by rw [bne_iff_ne]; exact h2
    rw [if_pos h2]
    generalize sizeS su = z at *
    clear h h1 h2
    go_enter Tryz.func8, Tryz.ntmps8
    go_wp2_with fail
    refine (CS.out w).mono ?_
    rintro e W ⟨rfl, rfl⟩
    go_wp2_with fail
    go_ret2
    exact ⟨rfl, rfl⟩
  have d2 : ((k.size : Int) != sizeS su) = false := by rw [bne_eq_false_iff_eq]; exact Classical.not_not.1 h2
  rw [if_neg h2] at h ⊢
  by_cases h3 : i.size ≠ 12
  · have d3 : ((i.size : Int) != 12) = true := by rw [bne_iff_ne]; omega
    rw [if_pos h3]
    generalize sizeS su = z at *
    clear h h1 h2 h3
    go_enter Tryz.func8, Tryz.ntmps8
    go_wp2_with fail
    refine (CS.out w).mono ?_
    rintro e W ⟨rfl, rfl⟩
    go_wp2_with fail
    go_ret2
    exact ⟨rfl, rfl⟩
  · rw [if_neg h3] at h; exact absurd rfl h
set_option maxHeartbeats 2000000 in
theorem newBox_any (su : Int) (k i : ByteArray) (w : World) (h : newE su k i = 0) :
    Calls Tryz.prog 8 #[.int .i64 su, .string k, .string i] w fun e w' => ∃ b, e = .returned (.tuple #[.pointer (some ⟨b, 0, none⟩), .int .i64 0]) ∧ w.heap.size ≤ b ∧ BxAt w' b ⟨su, k, i, 0⟩ ∧ Below w.heap.size w w' := by
  have CS := Lib.hid (fun W => sSize_any su W)
  have hok := new_ok su k i h
  have hks : (k.size : Int) = sizeS su := by
    rcases hok.su with ⟨h1, h2⟩ | ⟨h1, h2⟩ <;> (simp only at h1 h2; rw [h1, h2]; rfl)
  have hz : sizeS su = 16 ∨ sizeS su = 32 := by
    rcases hok.su with ⟨h1, h2⟩ | ⟨h1, h2⟩ <;> (simp only at h1; rw [h1]) <;> simp [sizeS]
  have d1 : (sizeS su == 0) = false := by rw [beq_eq_false_iff_ne]; omega
  have d2 : ((k.size : Int) != sizeS su) = false := by rw [bne_eq_false_iff_eq]; exact hks
  have d3 : ((i.size : Int) != 12) = false := by rw [bne_eq_false_iff_eq]; have := hok.iv; simp only at this; omega
  have CK := Lib.hid (fun W => clone_any k W (by omega))
  have CI := Lib.hid (fun W => clone_any i W (by have := hok.iv; simp only at this; omega))
  generalize sizeS su = z at *
  clear h hok hks hz
  go_enter Tryz.func8, Tryz.ntmps8
  go_wp2_with fail
  refine (CS.out w).mono ?_
  rintro e W ⟨rfl, rfl⟩
  go_wp2_with fail
  refine (CK.out _).mono ?_
  rintro e W1 ⟨rfl, hb1⟩
  go_wp2_with fail
  refine (CI.out _).mono ?_
  rintro e W2 ⟨rfl, hb2⟩
  have HB := Lib.hid (hb1.trans (hb2.mono hb1.size))
  clear hb1 hb2
  go_wp2_with fail
  go_ret2
  exact ⟨_, rfl, HB.out.size, blk_new W2 _, HB.out.trans ((below_new W2 _).mono HB.out.size)⟩

set_option maxHeartbeats 2000000 in
theorem nonce_any (b : Nat) (s : BSt) (w : World) (h : BxAt w b s) (hok : BOk s) :
    Calls Tryz.prog 28 #[.pointer (some ⟨b, 0, none⟩)] w fun e w' => e = .returned (.string (nonB s)) ∧ Below w.heap.size w w' := by
  have CN := Lib.hid (fun W => sNonce_any s.iv s.n W hok.iv (by have := hok.n; omega))
  obtain ⟨c0, c1, c2, c3, f3⟩ := bx_cells h
  rw [show (⟨(nonS s.iv.data.toList s.n 8).toArray⟩ : ByteArray) = nonB s from rfl] at CN
  have k2 := cell_regrown c2
  have k3 := cell_regrown c3
  have hbn : (s.n : Int) ≤ 65536 := by have := hok.n; omega
  generalize nonB s = nb at *
  generalize s.iv = iv at *
  generalize s.n = n at *
  clear h hok c0 c1
  go_enter Tryz.func28, Tryz.ntmps28
  go_wp2_with fail
  refine wp_region_reads (by kernel_rfl) (by kernel_rfl) ?_
  repeat (first | go_big_quiet_step (with_reducible exact Calls.regrown_of (CN.out _)) | quiet_step (with_reducible exact Calls.regrown_of (CN.out _)))
  refine wpQuiet_nil ?_
  intro W1 hb1
  clear k2 k3 c2 c3 f3
  go_wp2_with fail
  go_ret
  exact ⟨rfl, hb1⟩

/-- A slice of one cell, new. -/
def rbOne (x : Value) : Told := ⟨fun w v => ∃ g, v = .slice (some ⟨g, 0, none⟩) 1 1 ∧ w.cell? ⟨g, 0, none⟩ = some x, fun w w' v hb ⟨g, e, hc⟩ => ⟨g, e, (hb.cell (block_lt_of_cell hc)).trans hc⟩⟩
theorem rbOne_new (w : World) (t : TypeId) (x : Value) : (w.alloc (.cells #[x] t)).cell? ⟨w.heap.size, 0, none⟩ = some x := by
  rw [cell_of_row _ w.heap.size 0 _ t (0, 0) (blk_new w _)]; rfl
theorem repeat_nil (n : Nat) : (⟨(Lib.repeatL (⟨#[0]⟩ : ByteArray).data.toList n).toArray⟩ : ByteArray) = nilB n := by
  have e : ∀ m, Lib.repeatL [(0 : UInt8)] m = List.replicate m 0 := by
    intro m
    induction m with
    | zero => rfl
    | succ m ih => first | (rw [Lib.repeatL, ih]; rfl) | (unfold Lib.repeatL at *; simp [List.replicate_succ, *])
  show (⟨(Lib.repeatL [0] n).toArray⟩ : ByteArray) = _
  rw [e]; rfl
theorem noughts_any (n : Nat) (w : World) (h : n ≤ 1048576) : Calls Tryz.prog 40 #[.string ⟨#[0]⟩, .int .i64 (n : Int)] w fun e w' => e = .returned (.string (nilB n)) ∧ Below w.heap.size w w' := by
  have hs : (⟨#[0]⟩ : ByteArray).size = 1 := rfl
  have h2 := Tryz.strings_Repeat ⟨#[0]⟩ n w (by omega) (by rw [hs]; omega)
  rw [repeat_nil] at h2
  exact h2
set_option maxHeartbeats 8000000 in
theorem padded_any (kind : Int) (plain : ByteArray) (pad : Nat) (w : World) (h1 : plain.size ≤ 1048576) (h2 : pad ≤ 1048576) :
    Calls Tryz.prog 25 #[.int .i64 kind, .string plain, .int .i64 (pad : Int)] w fun e w' => e = .returned (.string (padB kind plain pad)) ∧ Below w.heap.size w w' := by
  have CR := Lib.hid (fun W => noughts_any pad W h2)
  have wt : IntKind.u8.wrap kind = ((wbyte kind 0).toNat : Int) := by rw [IntKind.wrap_u8, wbyte_toNat]; simp
  have ls1 : (⟨#[wbyte kind 0]⟩ : ByteArray).size = 1 := rfl
  have ns := nilB_size pad
  have k1 : plain.size + 1 ≤ 9223372036854775807 := by omega
  have k2 : plain.size + 1 + pad ≤ 9223372036854775807 := by omega
  rw [padB]
  generalize nilB pad = zs at *
  have HK := Lib.hid (rfl : wbyte kind 0 = wbyte kind 0)
  generalize wbyte kind 0 = kb at *
  clear h1 h2 HK
  have hb0 := Below.refl w.heap.size w
  go_enter Tryz.func25, Tryz.ntmps25
  go_wp2_with fail
  refine wp_region_told 9 16 [(Told.val (.string plain), [1]),
    (Told.val (.int .i64 kind), [0]),
    (Told.val (.int .u8 (kb.toNat : Int)), [8]),
    (rbOne (.int .u8 (kb.toNat : Int)), [9]),
    (Told.val (.string ⟨#[kb]⟩), [10]),
    (Told.val (.string (plain ++ ⟨#[kb]⟩)), [7, 11]),
    (Told.val (.int .i64 (pad : Int)), [2]),
    (Told.val (.string zs), [13]),
    (Told.val (.string (plain ++ ⟨#[kb]⟩ ++ zs)), [12, 14])]
    (by kernel_rfl) (by kernel_rfl) rfl ?_ ?_
  · simp only [List.take_succ_cons, List.take_zero, toldObl, and_true]
    refine And.intro ?_ (And.intro ?_ (And.intro ?_ (And.intro ?_ (And.intro ?_ (And.intro ?_ (And.intro ?_ (And.intro ?_ (?_))))))))
    · intro a w hb h
      have e0 : a.tmps.getD 1 undef = .string plain := h 1 (by simp)
      simp only [Array.getD_eq_getD_getElem?] at e0
      refine told_q ?_
      simp [go_sem, e0, sQuiet]
    · intro a w hb h
      have e0 : a.tmps.getD 0 undef = .int .i64 kind := h 0 (by simp)
      simp only [Array.getD_eq_getD_getElem?] at e0
      refine told_q ?_
      simp [go_sem, e0, sQuiet]
    · intro a w hb h
      have e0 : a.tmps.getD 8 undef = .int .i64 kind := h 8 (by simp)
      simp only [Array.getD_eq_getD_getElem?] at e0
      refine told_q ?_
      simp [go_sem, e0, sQuiet, wt]
    · intro a w hb h
      have e0 : a.tmps.getD 9 undef = .int .u8 (kb.toNat : Int) := h 9 (by simp)
      simp only [Array.getD_eq_getD_getElem?] at e0
      simp [go_sem, e0, toldQuiet]
      exact ⟨below_new _ _, _, rfl, rbOne_new _ _ _⟩
    · intro a w hb h
      have t0 := h 10 (by simp)
      replace t0 : (rbOne (.int .u8 (kb.toNat : Int))).T w (a.tmps.getD 10 undef) := t0
      obtain ⟨g0, e0, c0⟩ := t0
      simp only [Array.getD_eq_getD_getElem?] at e0
      have hcv := conv_text w g0 0 1 1 [kb] rfl (fun j x hx => by
        rw [Nat.zero_add]
        match j, hx with
        | 0, hx => simp at hx; subst hx; exact c0
        | j + 1, hx => simp at hx)
      refine told_q ?_
      simp [go_sem, e0, sQuiet, hcv]
    · intro a w hb h
      have e0 : a.tmps.getD 7 undef = .string plain := h 7 (by simp)
      have e1 : a.tmps.getD 11 undef = .string ⟨#[kb]⟩ := h 11 (by simp)
      simp only [Array.getD_eq_getD_getElem?] at e0 e1
      refine told_q ?_
      simp [go_sem, e0, e1, sQuiet, ls1, Nat.not_lt.2 k1]
    · intro a w hb h
      have e0 : a.tmps.getD 2 undef = .int .i64 (pad : Int) := h 2 (by simp)
      simp only [Array.getD_eq_getD_getElem?] at e0
      refine told_q ?_
      simp [go_sem, e0, sQuiet]
    · intro a w hb h
      have e0 : a.tmps.getD 13 undef = .int .i64 (pad : Int) := h 13 (by simp)
      simp only [Array.getD_eq_getD_getElem?] at e0
      refine told_q ?_
      simp [go_sem, e0, sQuiet]
      exact CR.out _
    · intro a w hb h
      have e0 : a.tmps.getD 12 undef = .string (plain ++ ⟨#[kb]⟩) := h 12 (by simp)
      have e1 : a.tmps.getD 14 undef = .string zs := h 14 (by simp)
      simp only [Array.getD_eq_getD_getElem?] at e0 e1
      refine told_q ?_
      simp [go_sem, e0, e1, sQuiet, ls1, ns, Nat.not_lt.2 k2]
  simp only [List.take_succ_cons, List.take_zero, List.drop_succ_cons, List.drop_zero, toldEnd, Act.put, List.setIfInBounds_toArray, List.set_cons_succ, List.set_cons_zero]
  rintro X bk v7 q7 v8 q8 v9 q9 v10 q10 v11 q11 v12 q12 v13 q13 v14 q14 v15 q15
  obtain rfl := q7.symm
  obtain rfl := q8.symm
  obtain rfl := q9.symm
  obtain rfl := q11.symm
  obtain rfl := q12.symm
  obtain rfl := q13.symm
  obtain rfl := q14.symm
  obtain rfl := q15.symm
  clear q7 q8 q9 q11 q12 q13 q14 q15
  clear q10
  go_wp2_with fail
  go_ret
  exact ⟨rfl, hb0.trans bk⟩

theorem trim_any (t : ByteArray) (w : World) (h : t.size ≤ 1048576) : Calls Tryz.prog 46 #[.string t, .string ⟨#[0]⟩] w fun e w' => e = .returned (.string ⟨(unpM t).toArray⟩) ∧ w = w' :=
  (Tryz.strings_TrimRight_one t 0 (by decide) w (by omega)).mono fun e w' ⟨h1, h2⟩ => ⟨h1, h2.symm⟩
/-- What unpadded answers. -/
def unpA (t : ByteArray) : Ending := .returned (.tuple #[.int .i64 (unpK t), .string (unpB t), .int .i64 (unpE t)])
theorem unp_bad (t : ByteArray) (e : Int) (h : unpE t = e) (he : e ≠ 0) : unpA t = .returned (.tuple #[.int .i64 0, .string emB, .int .i64 e]) := by
  rw [unpA, unpK, unpB, if_neg (by rw [h]; exact he), if_neg (by rw [h]; exact he), h]
set_option maxHeartbeats 4000000 in
theorem unpadded_any (t : ByteArray) (w : World) (h : t.size ≤ 1048576) :
    Calls Tryz.prog 33 #[.string t] w fun e w' => e = unpA t ∧ Below w.heap.size w w' := by
  have CT := Lib.hid (fun W => trim_any t W h)
  have hle := trim_le t.data.toList 0
  rw [← Lib.size_eq, show Lib.trimRightB t.data.toList 0 = unpM t from rfl] at hle
  obtain ⟨M, hM⟩ : ∃ M : ByteArray, M = ⟨(unpM t).toArray⟩ := ⟨_, rfl⟩
  have hMl : M.data.toList = unpM t := by rw [hM]
  have hMs : M.size = (unpM t).length := by rw [Lib.size_eq, hMl]
  rw [← hM] at CT
  by_cases c0 : M.size = 0
  · have HE : unpE t = 11 := by rw [unpE, if_pos (by rw [← hMs]; exact c0)]
    have HA := Lib.hid (unp_bad t 11 HE (by decide))
    have d0 : decide ((M.size : Int) - 1 < 0) = true := decide_eq_true (by omega)
    have hMb : M.size ≤ 1048576 := by omega
    clear hM hMl hMs hle HE c0
    go_enter Tryz.func33, Tryz.ntmps33
    go_wp2_with fail
    refine (CT.out w).mono ?_
    rintro e W ⟨rfl, rfl⟩
    go_wp2_with fail
    go_ret3
    exact ⟨by rw [HA.out]; rfl, Below.refl _ _⟩
  obtain ⟨m, hm⟩ : ∃ m, M.size = m + 1 := ⟨M.size - 1, by omega⟩
  have N0 := Lib.hid (show ¬ (unpM t).length = 0 by rw [← hMs]; exact c0)
  have hmb : m ≤ 1048576 := by omega
  have e1 : (M.size : Int) - 1 = (m : Int) := by omega
  have hat : ∀ W, (Instr.index 9 (.string M) (.int .i64 (m : Int))).run Tryz.prog W = .ok (.int .u8 ((tlB t).toNat : Int)) W := fun W => by
    have := at_byte M m (by omega) W
    rw [hMl] at this
    rw [this, tlB, ← hMs, hm, Nat.add_sub_cancel]
  have d0 : decide ((m : Int) < 0) = false := decide_eq_false (by omega)
  have CK := Lib.hid (fun W => isKind_any ((tlB t).toNat : Int) W)
  have x0 : IntKind.i64.wrap ((tlB t).toNat : Int) = ((tlB t).toNat : Int) := by have := (tlB t).toNat_lt; rw [IntKind.wrap_i64]; omega
  have HM := Lib.hid hm; have HMS := Lib.hid hMs; have HML := Lib.hid hMl
  have j0 : (m : Int) < (M.size : Int) := by omega
  have j1 : (m : Int) ≤ (M.size : Int) := by omega
  have hms : (M.size : Int) = (m : Int) + 1 := by omega
  clear hM hMl hMs hle c0 hm h e1
  cases hk : isK ((tlB t).toNat : Int) with
  | false =>
    have HA := Lib.hid (unp_bad t 11 (by rw [unpE, if_neg N0.out, if_pos hk]) (by decide))
    rw [hk] at CK
    obtain ⟨b0, e0⟩ : ∃ b0, ((tlB t).toNat : Int) = b0 := ⟨_, rfl⟩
    rw [e0] at CK hat x0
    clear hk e0
    go_enter Tryz.func33, Tryz.ntmps33
    go_wp2_with fail
    refine (CT.out w).mono ?_
    rintro e W ⟨rfl, rfl⟩
    go_wp2_with fail
    refine (CK.out w).mono ?_
    rintro e W ⟨rfl, rfl⟩
    go_wp2_with fail
    go_ret3
    exact ⟨by rw [HA.out]; rfl, Below.refl _ _⟩
  | true =>
  have N1 := Lib.hid (show ¬ isK ((tlB t).toNat : Int) = false by rw [hk]; decide)
  rw [hk] at CK
  obtain ⟨b0, e0⟩ : ∃ b0, ((tlB t).toNat : Int) = b0 := ⟨_, rfl⟩
  rw [e0] at CK hat x0
  have E0 := Lib.hid e0
  clear hk e0
  by_cases c1 : 16384 < m
  · have HA := Lib.hid (unp_bad t 13 (by rw [unpE, if_neg N0.out, if_neg N1.out, if_pos (by rw [← HMS.out, HM.out, Nat.add_sub_cancel]; exact c1)]) (by decide))
    have d1 : decide ((16384 : Int) < (m : Int)) = true := decide_eq_true (by omega)
    clear c1
    go_enter Tryz.func33, Tryz.ntmps33
    go_wp2_with fail
    refine (CT.out w).mono ?_
    rintro e W ⟨rfl, rfl⟩
    go_wp2_with fail
    refine (CK.out w).mono ?_
    rintro e W ⟨rfl, rfl⟩
    go_wp2_with fail
    go_ret3
    exact ⟨by rw [HA.out]; rfl, Below.refl _ _⟩
  · have HE : unpE t = 0 := by rw [unpE, if_neg N0.out, if_neg N1.out, if_neg (by rw [← HMS.out, HM.out, Nat.add_sub_cancel]; exact c1)]
    have HX : M.extract 0 m = ⟨((unpM t).take ((unpM t).length - 1)).toArray⟩ := by rw [Lib.extract_eq, HML.out, ← HMS.out, HM.out]; simp
    have HA := Lib.hid (show unpA t = .returned (.tuple #[.int .i64 b0, .string (M.extract 0 m), .int .i64 0]) by rw [unpA, unpK, unpB, if_pos HE, if_pos HE, HE, E0.out, HX])
    have d1 : decide ((16384 : Int) < (m : Int)) = false := decide_eq_false (by omega)
    clear c1 HE HX
    go_enter Tryz.func33, Tryz.ntmps33
    go_wp2_with fail
    refine (CT.out w).mono ?_
    rintro e W ⟨rfl, rfl⟩
    go_wp2_with fail
    refine (CK.out w).mono ?_
    rintro e W ⟨rfl, rfl⟩
    go_wp2_with fail
    go_quiet (fail)
    go_wp2_with fail
    go_ret3
    exact ⟨by rw [HA.out]; rfl, below_drewN (Below.refl _ _) _⟩
end Go.Proofs.YtffnafikegakcaaGreatDoor
