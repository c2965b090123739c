/- HelloDecodes, over the program's calls. -/
import Derived.Test.YtjemikbnncfonaaHeH
import Derived.Test.YtjemikbnncfonaaHeI
namespace Go.Proofs.Ytjemikbnncfonaa
open Go.RowKit Go.Sort
set_option maxRecDepth 100000
set_option linter.unusedSimpArgs false
set_option linter.unusedVariables false

theorem decM_len (d : ByteArray) : (decM d).su.length ≤ 1000 := by
  by_cases h : decE d = 0
  · exact (okM_sizes (dec_ok h).1).2.2.2
  · rw [dec_none d h]; exact Nat.zero_le _
set_option maxHeartbeats 8000000 in
theorem helloDecodes_of (C : HeCalls) (d : ByteArray) (w : World) (hd : d.size ≤ maxLen) :
    Calls Try.prog 4 #[.string d] w fun e w' => e = .returned (.bool true) ∧ Below w.heap.size w w' := by
  obtain ⟨hzz, -⟩ := zero_of_info infoMsgH
  obtain ⟨hzr, -⟩ := zero_of_info infoMsg
  have CA := Lib.hid (fun W => heawake_of C W)
  have hb := Below.refl w.heap.size w
  by_cases h10 : 10000 < d.size
  · have d1 : decide ((10000 : Int) < (d.size : Int)) = true := by simp; omega
    clear hd
    go_enter Try.func4, Try.ntmps4
    go_wp2_with fail
    refine (CA.out _).mono ?_
    rintro e W2 ⟨rfl, bk2⟩
    go_wp2_with fail
    go_ret
    exact ⟨rfl, bk2⟩
  have d1 : decide ((10000 : Int) < (d.size : Int)) = false := by simp; omega
  have CD := Lib.hid (fun W => C.dec d W (by omega))
  have CR := Lib.hid (fun W => rdecode_any d W (by omega))
  have hl := decM_len d
  unfold decA at CD CR
  generalize decM d = N at *
  generalize decR d = rr at *
  generalize decE d = er at *
  obtain ⟨k, rn, sh, su, da, ask⟩ := N
  dsimp only at CD CR hl
  obtain ⟨n, hn⟩ : ∃ n, su.length = n := ⟨_, rfl⟩
  rw [hn] at CD CR hl
  have HNL := Lib.hid hn
  have HN6 : Hid (n ≤ 1000000) := Lib.hid (by omega)
  have q1 : (rr.toList == rr.toList) = true := by simp
  have q2 : (er == er) = true := by simp
  clear hd hn hl
  go_enter Try.func4, Try.ntmps4
  go_wp2_with fail
  refine (CD.out _).mono ?_
  rintro e W1 ⟨⟨ao, c, rfl, hI, -⟩, bk⟩
  have hb1 := hb.trans (bk.mono hb.size)
  have H1 := Lib.hid (blk_new W1 (.cells zM 24))
  have bk1 := below_setRow (below_new W1 (.cells zM 24)) (Nat.le_refl _) (msC ⟨k, rn, sh, su, da, ask⟩ (.slice ao n c))
  have HG1 := Lib.hid (setRow_heap _ W1.heap.size _ (msC ⟨k, rn, sh, su, da, ask⟩ (.slice ao n c)) _ _ H1.out)
  have hb2 := hb1.trans (bk1.mono hb1.size)
  have HI1 := Lib.hid (hI.step bk1)
  clear bk bk1 CD hI hb hb1
  go_wp2_with (with_reducible refine wpList_store_row rfl 24 _ _ rfl W1.heap.size (msC ⟨k, rn, sh, su, da, ask⟩ (.slice ao n c)) rfl rfl 24 _ H1.out (sizeMsgH _ _) rfl (oneMsg _ _ _ _) ?_)
  generalize World.setRow _ _ _ = W2 at *
  generalize W1.heap.size = g1 at *
  clear H1
  refine (CR.out _).mono ?_
  rintro e W3 ⟨⟨ao2, c2, rfl, hJ, -⟩, bk⟩
  have hb3 := hb2.trans (bk.mono hb2.size)
  have HG3 := blk_below bk (blk_lt HG1.out) HG1.out
  have HI3 := HI1.out.step bk
  have H3 := Lib.hid (blk_new W3 (.cells zM 31))
  have bk3 := below_setRow (below_new W3 (.cells zM 31)) (Nat.le_refl _) (msC ⟨k, rn, sh, su, da, ask⟩ (.slice ao2 n c2))
  have HT := Lib.hid (setRow_heap _ W3.heap.size _ (msC ⟨k, rn, sh, su, da, ask⟩ (.slice ao2 n c2)) _ _ H3.out)
  have hb4 := hb3.trans (bk3.mono hb3.size)
  have HG4 := Lib.hid (blk_below bk3 (blk_lt HG3) HG3)
  have HI4 := Lib.hid (HI3.step bk3)
  have HJ4 := Lib.hid (hJ.step bk3)
  clear bk bk3 CR hJ hb2 hb3 HG3 HI3 HG1 HI1
  go_wp2_with (with_reducible refine wpList_store_row rfl 31 _ _ rfl W3.heap.size (msC ⟨k, rn, sh, su, da, ask⟩ (.slice ao2 n c2)) rfl rfl 31 _ H3.out (sizeMsg _ _) rfl (oneMsg _ _ _ _) ?_)
  generalize World.setRow _ _ _ = W4 at *
  generalize W3.heap.size = g3 at *
  clear H3
  obtain ⟨c0, c1, c2', c3, c4, c5⟩ := ms_cells HG4.out
  obtain ⟨e0, e1, e2, e3, e4, e5⟩ := ms_cells HT.out
  dsimp only at c0 c1 c2' c3 c4 c5 e0 e1 e2 e3 e4 e5
  have CP := Lib.hid (fun W => plainL k rn sh da ask ao n c W)
  have CS := Lib.hid (fun d os => Calls.regrown_of (rsameL k rn sh su da ask ao ao2 n c c2 (grow (redrawn W4 d) os) HNL.out HN6.out (HI4.out.step (below_regrown W4 d os)) (HJ4.out.step (below_regrown W4 d os))))
  have k0 := cell_regrown c0; have k1 := cell_regrown c1; have k2 := cell_regrown c2'; have k3 := cell_regrown c3; have k4 := cell_regrown c4; have k5 := cell_regrown c5
  have l0 := cell_regrown e0; have l1 := cell_regrown e1; have l2 := cell_regrown e2; have l3 := cell_regrown e3; have l4 := cell_regrown e4; have l5 := cell_regrown e5
  refine wp_region_reads (by kernel_rfl) (by kernel_rfl) ?_
  repeat (first | go_big_quiet_step ((first | with_reducible exact Calls.regrown_of (CP.out _) | with_reducible exact CS.out _ _ | with_reducible exact Calls.regrown_of (CA.out _))) | quiet_step ((first | with_reducible exact Calls.regrown_of (CP.out _) | with_reducible exact CS.out _ _ | with_reducible exact Calls.regrown_of (CA.out _))))
  refine wpQuiet_nil ?_
  intro W5 bk
  have hb5 := hb4.trans (bk.mono hb4.size)
  clear k0 k1 k2 k3 k4 k5 l0 l1 l2 l3 l4 l5 c0 c1 c2' c3 c4 c5 e0 e1 e2 e3 e4 e5 CP CS HG4 HT HI4 HJ4 hb4 bk
  go_wp2_with fail
  go_ret
  exact ⟨rfl, hb5⟩
end Go.Proofs.Ytjemikbnncfonaa
