/- HelloBack, over the program's calls. -/
import Derived.Test.YtjemikbnncfonaaHeQ
import Derived.Test.YtjemikbnncfonaaHeM
import Derived.Test.YtjemikbnncfonaaHpB
namespace Go.Proofs.Ytjemikbnncfonaa
open Go.RowKit Go.Sort
set_option maxRecDepth 100000
set_option linter.unusedSimpArgs false
set_option linter.unusedVariables false

theorem plainL (k : Int) (rn sh : ByteArray) (da : ByteArray) (ask : Bool) (ao : Option Addr) (n c : Nat) (w : World) :
    Calls Try.prog 11 #[.agg #[.int .i64 k, .string rn, .string sh, .slice ao n c, .string da, .bool ask]] w fun e w' => e = .returned (.agg #[.int .i64 k, .string rn, .string sh, .slice ao n c, .string da, .bool ask]) ∧ Below w.heap.size w w' := plain_any ⟨k, rn, sh, [], da, ask⟩ ao n c w
theorem rsameL (k : Int) (rn sh : ByteArray) (su : List Int) (da : ByteArray) (ask : Bool) (ao bo : Option Addr) (n c d : Nat) (w : World) (hn : su.length = n) (hm : n ≤ 1000000) (hI : IntsAt w ao su) (hJ : IntsAt w bo su) :
    Calls Try.prog 14 #[.agg #[.int .i64 k, .string rn, .string sh, .slice ao n c, .string da, .bool ask], .agg #[.int .i64 k, .string rn, .string sh, .slice bo n d, .string da, .bool ask]] w fun e w' => e = .returned (.bool true) ∧ Below w.heap.size w w' := rsame_any ⟨k, rn, sh, su, da, ask⟩ ao bo n c d w hn hm hI hJ
theorem okM_ints {m : HMsg} (h : okM m = true) : ∀ k, -9223372036854775808 ≤ m.su.getD k 0 ∧ m.su.getD k 0 ≤ 9223372036854775807 := fun k => by
  have e0 : m.su = [] ∨ suitsOk m.su = true := by
    rcases okM_kinds h with hk | hk | hk | hk | hk | hk | hk | hk
    · exact .inr (suited_ok (okM_1 hk h).1).2.2.2.2
    · exact .inr (suited_ok (okM_2 hk h).1).2.2.2.2
    · exact .inl (bare_ok (okM_8 (.inl hk) h).1).2.2
    · exact .inl (bare_ok (okM_11 hk h).1).2.2
    · exact .inl (bare_ok (okM_8 (.inr hk) h).1).2.2
    · exact .inl (bare_ok (okM_15 hk h).1).2.2
    · exact .inl (bare_ok (okM_20 hk h).1).2.2
    · exact .inl (bare_ok (okM_24 hk h).1).2.2
  rcases e0 with e | e
  · rw [e]; simp
  · by_cases hk : k < m.su.length
    · have := suits_at e k (m.su.getD k 0) (by rw [List.getD_eq_getElem?_getD, List.getElem?_eq_getElem hk]; rfl)
      omega
    · rw [List.getD_eq_getElem?_getD, List.getElem?_eq_none (by omega)]; simp
theorem decA_enc (m : HMsg) (r : ByteArray) (h : okM m = true) (ao : Option Addr) (c : Nat) : decA (encB m ++ r) (decE (encB m ++ r)) ao c = .returned (.tuple #[.agg (msC m (.slice ao m.su.length c)), .string r, .int .i64 0]) := by
  obtain ⟨e1, e2, e3⟩ := dec_enc m r h
  rw [decA, e1, e2, e3]
theorem decA_not (d : ByteArray) (h : decE d ≠ 0) (ao : Option Addr) (c : Nat) : decA d (decE d) ao c = .returned (.tuple #[.agg (msC noM (.slice ao 0 c)), .string ⟨#[]⟩, .int .i64 (decE d)]) := by
  rw [decA, decM, decR, if_neg h, if_neg h]; rfl
theorem decA_is (d : ByteArray) (m : HMsg) (r : ByteArray) (h : decE d = 0) (hm : decM d = m) (hr : decR d = r) (ao : Option Addr) (c : Nat) : decA d (decE d) ao c = .returned (.tuple #[.agg (msC m (.slice ao m.su.length c)), .string r, .int .i64 0]) := by
  rw [decA, h, hm, hr]
set_option maxHeartbeats 16000000 in
theorem helloBack_of (C : HeCalls) (m : HMsg) (ao : Option Addr) (n c : Nat) (r : ByteArray) (w : World) (hr : r.size ≤ maxLen) (hn : m.su.length = n) (hz : ∀ k, -9223372036854775808 ≤ m.su.getD k 0 ∧ m.su.getD k 0 ≤ 9223372036854775807) (hI : IntsAt w ao m.su) :
    Calls Try.prog 5 #[.agg (msC m (.slice ao n c)), .string r] w fun e w' => e = .returned (.bool true) ∧ Below w.heap.size w w' := by
  obtain ⟨hzz, -⟩ := zero_of_info infoMsgH
  obtain ⟨hzr, -⟩ := zero_of_info infoMsg
  obtain ⟨k, rn, sh, su, da, ask⟩ := m
  have HB0 := below_new w (.cells (msC ⟨k, rn, sh, su, da, ask⟩ (.slice ao n c)) 24)
  have HG := Lib.hid (blk_new w (.cells (msC ⟨k, rn, sh, su, da, ask⟩ (.slice ao n c)) 24))
  have HI := Lib.hid (hI.step HB0)
  obtain ⟨c0, c1, c2, c3, c4, c5⟩ := ms_cells HG.out
  dsimp only at c0 c1 c2 c3 c4 c5
  have CF := Lib.hid (fun W => few_any ⟨k, rn, sh, su, da, ask⟩ ao n c W hn)
  have hsz := HB0.size
  cases hf : fewM ⟨k, rn, sh, su, da, ask⟩ with
  | false =>
    rw [hf] at CF
    clear hI hz hn hf
    go_enter Try.func5, Try.ntmps5
    go_wp2_with fail
    refine (CF.out _).mono ?_
    rintro e W1 ⟨rfl, bk⟩
    have hb := HB0.trans (bk.mono hsz)
    go_wp2_with fail
    refine (heawake_of C _).mono ?_
    rintro e W2 ⟨rfl, bk2⟩
    go_wp2_with fail
    go_ret
    exact ⟨rfl, hb.trans (bk2.mono hb.size)⟩
  | true =>
  rw [hf] at CF
  by_cases h10 : 10000 < r.size
  · have d1 : decide ((10000 : Int) < (r.size : Int)) = true := by simp; omega
    clear hI hz hn hf
    go_enter Try.func5, Try.ntmps5
    go_wp2_with fail
    refine (CF.out _).mono ?_
    rintro e W1 ⟨rfl, bk⟩
    have hb := HB0.trans (bk.mono hsz)
    go_wp2_with fail
    refine (heawake_of C _).mono ?_
    rintro e W2 ⟨rfl, bk2⟩
    go_wp2_with fail
    go_ret
    exact ⟨rfl, hb.trans (bk2.mono hb.size)⟩
  have d1 : decide ((10000 : Int) < (r.size : Int)) = false := by simp; omega
  have d1n : ¬ 10000 < r.size := h10
  have d1m : r.size ≤ 10000 := by omega
  obtain ⟨f1, f2, f3, f4⟩ := few_ok hf
  dsimp only at f1 f2 f3 f4 hn hz
  have CE := Lib.hid (fun W hi => C.enc ⟨k, rn, sh, su, da, ask⟩ ao n c W hn (by omega) (by dsimp only; omega) (by dsimp only; omega) (by dsimp only; omega) hz hi)
  have HD := Lib.hid (fun W => C.dec r W (by omega))
  have HZ : Hid (r.size ≤ 10000) := Lib.hid (by omega)
  have HNL := Lib.hid hn
  have HN6 : Hid (n ≤ 1000000) := Lib.hid (by omega)
  cases ho : okM ⟨k, rn, sh, su, da, ask⟩ with
  | false =>
    unfold encX encE at CE
    rw [ho, if_neg (by decide), if_neg (by decide)] at CE
    have q0 : ((1 : Int) == 0) = false := by decide
    clear hI hz hn hf ho f1 f2 f3 f4 hr h10
    go_enter Try.func5, Try.ntmps5
    go_wp2_with fail
    refine (CF.out _).mono ?_
    rintro e W1 ⟨rfl, bk⟩
    have hb := HB0.trans (bk.mono hsz)
    have HG1 := Lib.hid (blk_below bk (blk_lt HG.out) HG.out)
    have HI1 := Lib.hid (HI.out.step bk)
    clear bk HG HI c0 c1 c2 c3 c4 c5 CF HB0 hsz
    obtain ⟨c0, c1, c2, c3, c4, c5⟩ := ms_cells HG1.out
    dsimp only at c0 c1 c2 c3 c4 c5
    go_wp2_with fail
    refine (CE.out _ HI1.out).mono ?_
    rintro e W2 ⟨rfl, bk⟩
    have hb2 := hb.trans (bk.mono hb.size)
    have HG2 := Lib.hid (blk_below bk (blk_lt HG1.out) HG1.out)
    have HI2 := Lib.hid (HI1.out.step bk)
    clear bk HG1 HI1 c0 c1 c2 c3 c4 c5 CE hb
    obtain ⟨c0, c1, c2, c3, c4, c5⟩ := ms_cells HG2.out
    dsimp only at c0 c1 c2 c3 c4 c5
    go_wp2_with fail
    clear c0 c1 c2 c3 c4 c5 HG2 HI2
    by_cases her : decE r = 0
    case neg =>
      have HA := Lib.hid (decA_not r her)
      have HM : Hid (decM r = noM) := Lib.hid (by rw [decM, if_neg her])
      generalize decE r = er at *
      have n0 : (er != 0) = true := by rw [bne_iff_ne]; exact her
      have n1 : (([] : List UInt8) == []) = true := rfl
      clear her
      refine (HD.out _).mono ?_
      rintro e V1 ⟨⟨ao3, c3, rfl, -, -⟩, bk⟩
      rw [HA.out]
      have hv := hb2.trans (bk.mono hb2.size)
      have H3 := Lib.hid (blk_new V1 (.cells zM 24))
      have bk3 := below_setRow (below_new V1 (.cells zM 24)) (Nat.le_refl _) (msC noM (.slice ao3 0 c3))
      have hv2 := hv.trans (bk3.mono hv.size)
      have HN := Lib.hid (setRow_heap _ V1.heap.size _ (msC noM (.slice ao3 0 c3)) _ _ H3.out)
      obtain ⟨e0, e1, e2, e3, e4, e5⟩ := ms_cells HN.out
      have CQ := Lib.hid (fun W => rsame_any noM ao3 none 0 c3 0 W rfl (by decide) (IntsAt.nil _ _) (IntsAt.nil _ _))
      clear bk bk3 HA HD hv hb2
      go_wp2_with (with_reducible refine wpList_store_row rfl 24 _ _ rfl V1.heap.size (msC noM (.slice ao3 0 c3)) rfl rfl 24 _ H3.out (sizeMsgH _ _) rfl (oneMsg _ _ _ _) ?_)
      refine (plain_any noM ao3 0 c3 _).mono ?_
      rintro e V2 ⟨rfl, bk⟩
      have hv3 := hv2.trans (bk.mono hv2.size)
      clear bk hv2 H3 HN e0 e1 e2 e3 e4 e5
      go_wp2_with fail
      refine (CQ.out _).mono ?_
      rintro e V3 ⟨rfl, bk⟩
      have hv4 := hv3.trans (bk.mono hv3.size)
      clear bk hv3 CQ
      go_wp2_with fail
      refine (heawake_of C _).mono ?_
      rintro e V4 ⟨rfl, bk⟩
      go_wp2_with fail
      go_ret
      exact ⟨rfl, hv4.trans (bk.mono hv4.size)⟩
    case pos =>
      obtain ⟨hok, hen⟩ := dec_ok her
      obtain ⟨N, hN⟩ : ∃ N, decM r = N := ⟨_, rfl⟩
      obtain ⟨rr, hrr⟩ : ∃ rr, decR r = rr := ⟨_, rfl⟩
      have HA := Lib.hid (decA_is r N rr her hN hrr)
      rw [hN] at hok hen
      rw [hrr] at hen
      have hints := okM_ints hok
      obtain ⟨y1, y2, y3, y4⟩ := okM_sizes hok
      have hbs := bodB_size _ hok
      have hes := encB_size N
      have CE2 := Lib.hid (fun W ao c hi => C.enc N ao N.su.length c W rfl y4 y1 y2 y3 hints hi)
      unfold encX encE at CE2
      rw [hok, if_pos rfl, if_pos rfl] at CE2
      have HNN := Lib.hid hN
      generalize encB N = en at *
      obtain ⟨k2, rn2, sh2, su2, da2, ask2⟩ := N
      dsimp only at CE2 HA
      obtain ⟨m2, hm2⟩ : ∃ m2, su2.length = m2 := ⟨_, rfl⟩
      rw [hm2] at CE2 HA
      have heq : ((en ++ rr).toList == r.toList) = true := by rw [hen, beq_iff_eq]
      have hrs : en.size + rr.size ≤ 9223372036854775807 := by
        have := congrArg ByteArray.size hen
        rw [ByteArray.size_append] at this
        have := HZ.out
        omega
      have n0 : ((0 : Int) != 0) = false := by decide
      have n1 : ((0 : Int) == 0) = true := by decide
      clear hok hen hints y1 y2 y3 y4 hbs hes hN hrr hm2 her HZ
      refine (HD.out _).mono ?_
      rintro e V1 ⟨⟨ao3, c3, rfl, hI3, -⟩, bk⟩
      rw [HA.out]
      rw [HNN.out] at hI3
      have hv := hb2.trans (bk.mono hb2.size)
      have H3 := Lib.hid (blk_new V1 (.cells zM 24))
      have bk3 := below_setRow (below_new V1 (.cells zM 24)) (Nat.le_refl _) (msC ⟨k2, rn2, sh2, su2, da2, ask2⟩ (.slice ao3 m2 c3))
      have hv2 := hv.trans (bk3.mono hv.size)
      have HI3 := Lib.hid (hI3.step bk3)
      have HN := Lib.hid (setRow_heap _ V1.heap.size _ (msC ⟨k2, rn2, sh2, su2, da2, ask2⟩ (.slice ao3 m2 c3)) _ _ H3.out)
      obtain ⟨e0, e1, e2, e3, e4, e5⟩ := ms_cells HN.out
      dsimp only at e0 e1 e2 e3 e4 e5
      clear bk bk3 HA HD hv hI3 hb2 HNN
      go_wp2_with (with_reducible refine wpList_store_row rfl 24 _ _ rfl V1.heap.size (msC ⟨k2, rn2, sh2, su2, da2, ask2⟩ (.slice ao3 m2 c3)) rfl rfl 24 _ H3.out (sizeMsgH _ _) rfl (oneMsg _ _ _ _) ?_)
      refine (CE2.out _ _ _ HI3.out).mono ?_
      rintro e V2 ⟨rfl, bk⟩
      have hv3 := hv2.trans (bk.mono hv2.size)
      clear bk hv2 H3 HN e0 e1 e2 e3 e4 e5 HI3 CE2
      go_wp2_with fail
      refine (heawake_of C _).mono ?_
      rintro e V4 ⟨rfl, bk⟩
      go_wp2_with fail
      go_ret
      exact ⟨rfl, hv3.trans (bk.mono hv3.size)⟩
  | true =>
    unfold encX encE at CE
    rw [ho, if_pos rfl, if_pos rfl] at CE
    have hes := encB_size ⟨k, rn, sh, su, da, ask⟩
    have hbs := bodB_size _ ho
    have HA1 := Lib.hid (decA_enc ⟨k, rn, sh, su, da, ask⟩ r ho)
    have HDM : Hid ((decM (encB ⟨k, rn, sh, su, da, ask⟩ ++ r)).su = su) := Lib.hid (by rw [(dec_enc ⟨k, rn, sh, su, da, ask⟩ r ho).2.1])
    dsimp only at HA1
    rw [hn] at HA1
    have hxs : (encB ⟨k, rn, sh, su, da, ask⟩).size + r.size ≤ 9223372036854775807 := by omega
    have HD1 := Lib.hid (fun W => C.dec (encB ⟨k, rn, sh, su, da, ask⟩ ++ r) W (by rw [ByteArray.size_append]; omega))
    generalize encB ⟨k, rn, sh, su, da, ask⟩ = x at *
    have q0 : ((0 : Int) == 0) = true := by decide
    have q1 : ((0 : Int) != 0) = false := by decide
    have q2 : (r.toList != r.toList) = false := by simp
    have q3 : (r.toList == r.toList) = true := by simp
    clear hI hz hn hf ho f1 f2 f3 f4 hes hbs hr h10
    go_enter Try.func5, Try.ntmps5
    go_wp2_with fail
    refine (CF.out _).mono ?_
    rintro e W1 ⟨rfl, bk⟩
    have hb := HB0.trans (bk.mono hsz)
    have HG1 := Lib.hid (blk_below bk (blk_lt HG.out) HG.out)
    have HI1 := Lib.hid (HI.out.step bk)
    clear bk HG HI c0 c1 c2 c3 c4 c5 CF HB0 hsz
    obtain ⟨c0, c1, c2, c3, c4, c5⟩ := ms_cells HG1.out
    dsimp only at c0 c1 c2 c3 c4 c5
    go_wp2_with fail
    refine (CE.out _ HI1.out).mono ?_
    rintro e W2 ⟨rfl, bk⟩
    have hb2 := hb.trans (bk.mono hb.size)
    have HG2 := Lib.hid (blk_below bk (blk_lt HG1.out) HG1.out)
    have HI2 := Lib.hid (HI1.out.step bk)
    clear bk HG1 HI1 c0 c1 c2 c3 c4 c5 CE hb
    obtain ⟨c0, c1, c2, c3, c4, c5⟩ := ms_cells HG2.out
    dsimp only at c0 c1 c2 c3 c4 c5
    go_wp2_with fail
    refine (HD1.out _).mono ?_
    rintro e W3 ⟨⟨ao2, c2', rfl, hJ, -⟩, bk⟩
    rw [HA1.out]
    rw [HDM.out] at hJ
    have hb3 := hb2.trans (bk.mono hb2.size)
    have HG3 := blk_below bk (blk_lt HG2.out) HG2.out
    have HI3 := HI2.out.step bk
    have H3 := Lib.hid (blk_new W3 (.cells zM 24))
    have bk3 := below_setRow (below_new W3 (.cells zM 24)) (Nat.le_refl _) (msC ⟨k, rn, sh, su, da, ask⟩ (.slice ao2 n c2'))
    have HT := Lib.hid (setRow_heap _ W3.heap.size _ (msC ⟨k, rn, sh, su, da, ask⟩ (.slice ao2 n c2')) _ _ H3.out)
    have hb4 := hb3.trans (bk3.mono hb3.size)
    have HG4 := Lib.hid (blk_below bk3 (blk_lt HG3) HG3)
    have HI4 := Lib.hid (HI3.step bk3)
    have HJ4 := Lib.hid (hJ.step bk3)
    clear bk bk3 HG2 HI2 hb2 HG3 HI3 hJ hb3 HA1 HD1 HDM c0 c1 c2 c3 c4 c5
    go_wp2_with (with_reducible refine wpList_store_row rfl 24 _ _ rfl W3.heap.size (msC ⟨k, rn, sh, su, da, ask⟩ (.slice ao2 n c2')) rfl rfl 24 _ H3.out (sizeMsgH _ _) rfl (oneMsg _ _ _ _) ?_)
    generalize World.setRow _ _ _ = W4 at *
    generalize W3.heap.size = gt at *
    clear H3
    obtain ⟨c0, c1, c2, c3, c4, c5⟩ := ms_cells HG4.out
    obtain ⟨e0, e1, e2, e3, e4, e5⟩ := ms_cells HT.out
    dsimp only at c0 c1 c2 c3 c4 c5 e0 e1 e2 e3 e4 e5
    have CP1 := Lib.hid (fun W => plainL k rn sh da ask ao n c W)
    have CP2 := Lib.hid (fun W => plainL k rn sh da ask ao2 n c2' W)
    have CS := Lib.hid (fun d os => Calls.regrown_of (rsameL k rn sh su da ask ao2 ao n c2' c (grow (redrawn W4 d) os) HNL.out HN6.out (HJ4.out.step (below_regrown W4 d os)) (HI4.out.step (below_regrown W4 d os))))
    have k0 := cell_regrown c0; have k1 := cell_regrown c1; have k2 := cell_regrown c2; have k3 := cell_regrown c3; have k4 := cell_regrown c4; have k5 := cell_regrown c5
    have l0 := cell_regrown e0; have l1 := cell_regrown e1; have l2 := cell_regrown e2; have l3 := cell_regrown e3; have l4 := cell_regrown e4; have l5 := cell_regrown e5
    refine wp_region_reads (by kernel_rfl) (by kernel_rfl) ?_
    repeat (first | go_big_quiet_step ((first | with_reducible exact Calls.regrown_of (CP1.out _) | with_reducible exact Calls.regrown_of (CP2.out _) | with_reducible exact CS.out _ _)) | quiet_step ((first | with_reducible exact Calls.regrown_of (CP1.out _) | with_reducible exact Calls.regrown_of (CP2.out _) | with_reducible exact CS.out _ _)))
    refine wpQuiet_nil ?_
    intro W5 bk
    have hb5 := hb4.trans (bk.mono hb4.size)
    clear k0 k1 k2 k3 k4 k5 l0 l1 l2 l3 l4 l5 c0 c1 c2 c3 c4 c5 e0 e1 e2 e3 e4 e5 CP1 CP2 CS HG4 HT HI4 HJ4 hb4 bk
    go_wp2_with fail
    by_cases her : decE r = 0
    case neg =>
      have HA := Lib.hid (decA_not r her)
      have HM : Hid (decM r = noM) := Lib.hid (by rw [decM, if_neg her])
      generalize decE r = er at *
      have n0 : (er != 0) = true := by rw [bne_iff_ne]; exact her
      have n1 : (([] : List UInt8) == []) = true := rfl
      clear her
      refine (HD.out _).mono ?_
      rintro e V1 ⟨⟨ao3, c3, rfl, -, -⟩, bk⟩
      rw [HA.out]
      have hv := hb5.trans (bk.mono hb5.size)
      have H3 := Lib.hid (blk_new V1 (.cells zM 24))
      have bk3 := below_setRow (below_new V1 (.cells zM 24)) (Nat.le_refl _) (msC noM (.slice ao3 0 c3))
      have hv2 := hv.trans (bk3.mono hv.size)
      have HN := Lib.hid (setRow_heap _ V1.heap.size _ (msC noM (.slice ao3 0 c3)) _ _ H3.out)
      obtain ⟨e0, e1, e2, e3, e4, e5⟩ := ms_cells HN.out
      have CQ := Lib.hid (fun W => rsame_any noM ao3 none 0 c3 0 W rfl (by decide) (IntsAt.nil _ _) (IntsAt.nil _ _))
      clear bk bk3 HA HD hv hb5
      go_wp2_with (with_reducible refine wpList_store_row rfl 24 _ _ rfl V1.heap.size (msC noM (.slice ao3 0 c3)) rfl rfl 24 _ H3.out (sizeMsgH _ _) rfl (oneMsg _ _ _ _) ?_)
      refine (plain_any noM ao3 0 c3 _).mono ?_
      rintro e V2 ⟨rfl, bk⟩
      have hv3 := hv2.trans (bk.mono hv2.size)
      clear bk hv2 H3 HN e0 e1 e2 e3 e4 e5
      go_wp2_with fail
      refine (CQ.out _).mono ?_
      rintro e V3 ⟨rfl, bk⟩
      have hv4 := hv3.trans (bk.mono hv3.size)
      clear bk hv3 CQ
      go_wp2_with fail
      refine (heawake_of C _).mono ?_
      rintro e V4 ⟨rfl, bk⟩
      go_wp2_with fail
      go_ret
      exact ⟨rfl, hv4.trans (bk.mono hv4.size)⟩
    case pos =>
      obtain ⟨hok, hen⟩ := dec_ok her
      obtain ⟨N, hN⟩ : ∃ N, decM r = N := ⟨_, rfl⟩
      obtain ⟨rr, hrr⟩ : ∃ rr, decR r = rr := ⟨_, rfl⟩
      have HA := Lib.hid (decA_is r N rr her hN hrr)
      rw [hN] at hok hen
      rw [hrr] at hen
      have hints := okM_ints hok
      obtain ⟨y1, y2, y3, y4⟩ := okM_sizes hok
      have hbs := bodB_size _ hok
      have hes := encB_size N
      have CE2 := Lib.hid (fun W ao c hi => C.enc N ao N.su.length c W rfl y4 y1 y2 y3 hints hi)
      unfold encX encE at CE2
      rw [hok, if_pos rfl, if_pos rfl] at CE2
      have HNN := Lib.hid hN
      generalize encB N = en at *
      obtain ⟨k2, rn2, sh2, su2, da2, ask2⟩ := N
      dsimp only at CE2 HA
      obtain ⟨m2, hm2⟩ : ∃ m2, su2.length = m2 := ⟨_, rfl⟩
      rw [hm2] at CE2 HA
      have heq : ((en ++ rr).toList == r.toList) = true := by rw [hen, beq_iff_eq]
      have hrs : en.size + rr.size ≤ 9223372036854775807 := by
        have := congrArg ByteArray.size hen
        rw [ByteArray.size_append] at this
        have := HZ.out
        omega
      have n0 : ((0 : Int) != 0) = false := by decide
      have n1 : ((0 : Int) == 0) = true := by decide
      clear hok hen hints y1 y2 y3 y4 hbs hes hN hrr hm2 her HZ
      refine (HD.out _).mono ?_
      rintro e V1 ⟨⟨ao3, c3, rfl, hI3, -⟩, bk⟩
      rw [HA.out]
      rw [HNN.out] at hI3
      have hv := hb5.trans (bk.mono hb5.size)
      have H3 := Lib.hid (blk_new V1 (.cells zM 24))
      have bk3 := below_setRow (below_new V1 (.cells zM 24)) (Nat.le_refl _) (msC ⟨k2, rn2, sh2, su2, da2, ask2⟩ (.slice ao3 m2 c3))
      have hv2 := hv.trans (bk3.mono hv.size)
      have HI3 := Lib.hid (hI3.step bk3)
      have HN := Lib.hid (setRow_heap _ V1.heap.size _ (msC ⟨k2, rn2, sh2, su2, da2, ask2⟩ (.slice ao3 m2 c3)) _ _ H3.out)
      obtain ⟨e0, e1, e2, e3, e4, e5⟩ := ms_cells HN.out
      dsimp only at e0 e1 e2 e3 e4 e5
      clear bk bk3 HA HD hv hI3 hb5 HNN
      go_wp2_with (with_reducible refine wpList_store_row rfl 24 _ _ rfl V1.heap.size (msC ⟨k2, rn2, sh2, su2, da2, ask2⟩ (.slice ao3 m2 c3)) rfl rfl 24 _ H3.out (sizeMsgH _ _) rfl (oneMsg _ _ _ _) ?_)
      refine (CE2.out _ _ _ HI3.out).mono ?_
      rintro e V2 ⟨rfl, bk⟩
      have hv3 := hv2.trans (bk.mono hv2.size)
      clear bk hv2 H3 HN e0 e1 e2 e3 e4 e5 HI3 CE2
      go_wp2_with fail
      refine (heawake_of C _).mono ?_
      rintro e V4 ⟨rfl, bk⟩
      go_wp2_with fail
      go_ret
      exact ⟨rfl, hv3.trans (bk.mono hv3.size)⟩
end Go.Proofs.Ytjemikbnncfonaa
