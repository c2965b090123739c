/- KeysSizes, over the program's calls. -/
import Derived.Test.YtjjgakkijhjaiaaDoorKyL
import Derived.Test.YtjjgakkijhjaiaaDoorToldG
namespace Go.Proofs.YtjjgakkijhjaiaaDoor
open Go.RowKit Go.Sort
set_option maxRecDepth 100000
set_option linter.unusedSimpArgs false
set_option linter.unusedVariables false

theorem sig_front (b : Bool) (s : ByteArray) : ((sigB b s).extract 0 98) = spB 64 ++ wTls ++ wWho b ++ wVer := by
  apply ByteArray.ext
  apply Array.toList_inj.1
  rw [Lib.extract_eq]
  show ((sigB b s).data.toList.drop 0).take 98 = _
  rw [List.drop_zero, sigB, ByteArray.data_append, Array.toList_append]
  exact List.take_left' (by cases b <;> rfl)
theorem sig_other (s : ByteArray) : ((sigB true s).toList == (sigB false s).toList) = false := by
  rw [beq_eq_false_iff_ne]
  intro h
  rw [Lib.toList_data, Lib.toList_data] at h
  have e : sigB true s = sigB false s := ByteArray.ext (Array.toList_inj.1 h)
  have e2 := congrArg (fun x : ByteArray => (x.extract 0 98).data.toList) e
  simp only [sig_front] at e2
  exact absurd e2 (by decide)
theorem sec_small (f l s : ByteArray) (h : l.size ≤ 249) : (secX f l s).size = 32 ∧ secE l = 0 := by
  rw [secX, secE, if_neg (by omega), if_neg (by omega)]
  exact ⟨labB_size _ _ _ _, rfl⟩
theorem tra_sizes (s : ByteArray) : (traX 4867 s).size = 32 ∧ (traI 4867 s).size = 12 ∧ traE 4867 = 0 ∧ (traX 4865 s).size = 16 ∧ (traI 4865 s).size = 12 ∧ traE 4865 = 0 :=
  ⟨labB_size _ _ _ _, labB_size _ _ _ _, rfl, labB_size _ _ _ _, labB_size _ _ _ _, rfl⟩
set_option maxHeartbeats 16000000 in
theorem keysSizes_of (C : KyCalls) (s a b : ByteArray) (w : World) (hT : ShQ w) :
    Calls Tryd.prog 7 #[.string s, .string a, .string b] w fun e w' => e = .returned (.bool true) ∧ Below w.heap.size w w' := by
  have hb := Below.refl w.heap.size w
  have HT := Lib.hid hT
  clear hT
  by_cases h0 : s.size = 32
  case neg =>
    have d0 : ((s.size : Int) != 32) = true := by rw [bne_iff_ne]; omega
    go_enter Tryd.func7, Tryd.ntmps7
    go_wp2_with fail
    refine (kyawake_of C _ HT.out).mono ?_
    rintro e W' ⟨rfl, bk⟩
    replace hb := hb.trans (bk.mono hb.size)
    clear bk
    go_wp2_with fail
    go_ret
    exact ⟨rfl, hb⟩
  have d0 : ((s.size : Int) != 32) = false := by rw [bne_eq_false_iff_eq]; omega
  by_cases h1 : 500 < a.size
  · have d1 : decide ((500 : Int) < (a.size : Int)) = true := by simp; omega
    go_enter Tryd.func7, Tryd.ntmps7
    go_wp2_with fail
    refine (kyawake_of C _ HT.out).mono ?_
    rintro e W' ⟨rfl, bk⟩
    replace hb := hb.trans (bk.mono hb.size)
    clear bk
    go_wp2_with fail
    go_ret
    exact ⟨rfl, hb⟩
  have d1 : decide ((500 : Int) < (a.size : Int)) = false := by simp; omega
  by_cases h2 : 500 < b.size
  · have d2 : decide ((500 : Int) < (b.size : Int)) = true := by simp; omega
    go_enter Tryd.func7, Tryd.ntmps7
    go_wp2_with fail
    refine (kyawake_of C _ HT.out).mono ?_
    rintro e W' ⟨rfl, bk⟩
    replace hb := hb.trans (bk.mono hb.size)
    clear bk
    go_wp2_with fail
    go_ret
    exact ⟨rfl, hb⟩
  have d2 : decide ((500 : Int) < (b.size : Int)) = false := by simp; omega
  have HSA : Hid (a.size ≤ 100000) := Lib.hid (by omega)
  have HSB : Hid (b.size ≤ 100000) := Lib.hid (by omega)
  obtain ⟨x1, x2⟩ := sec_small s ⟨#[99, 32, 104, 115, 32, 116, 114, 97, 102, 102, 105, 99]⟩ a (by decide)
  obtain ⟨y1, y2⟩ := sec_small s ⟨#[115, 32, 104, 115, 32, 116, 114, 97, 102, 102, 105, 99]⟩ a (by decide)
  obtain ⟨z1, z2⟩ := sec_small s ⟨#[99, 32, 104, 115, 32, 116, 114, 97, 102, 102, 105, 99]⟩ b (by decide)
  have X1 := Lib.hid (fun W hW => C.secret s ⟨#[99, 32, 104, 115, 32, 116, 114, 97, 102, 102, 105, 99]⟩ a W hW (by omega) (by decide) (by omega))
  have X2 := Lib.hid (fun W hW => C.secret s ⟨#[115, 32, 104, 115, 32, 116, 114, 97, 102, 102, 105, 99]⟩ a W hW (by omega) (by decide) (by omega))
  have X3 := Lib.hid (fun W hW => C.secret s ⟨#[99, 32, 104, 115, 32, 116, 114, 97, 102, 102, 105, 99]⟩ b W hW (by omega) (by decide) (by omega))
  have hab : a = b → secX s ⟨#[99, 32, 104, 115, 32, 116, 114, 97, 102, 102, 105, 99]⟩ a = secX s ⟨#[99, 32, 104, 115, 32, 116, 114, 97, 102, 102, 105, 99]⟩ b := fun h => by rw [h]
  rw [x2] at X1
  rw [y2] at X2
  rw [z2] at X3
  generalize secX s ⟨#[99, 32, 104, 115, 32, 116, 114, 97, 102, 102, 105, 99]⟩ a = x at *
  generalize secX s ⟨#[115, 32, 104, 115, 32, 116, 114, 97, 102, 102, 105, 99]⟩ a = y at *
  generalize secX s ⟨#[99, 32, 104, 115, 32, 116, 114, 97, 102, 102, 105, 99]⟩ b = z at *
  have X4 := Lib.hid (fun W hW => C.traffic 4867 x W hW (by omega))
  have X5 := Lib.hid (fun W hW => C.traffic 4865 y W hW (by omega))
  have X6 := Lib.hid (fun W hW => C.next x W hW (by omega))
  have X7 := Lib.hid (fun W hW => C.tag x a W hW (by omega) (by omega))
  have X8 := Lib.hid (fun W hW => C.signed true a W hW (by omega))
  obtain ⟨t1, t2, t3, -, -, -⟩ := tra_sizes x
  obtain ⟨-, -, -, t4, t5, t6⟩ := tra_sizes y
  have n1 : (nxB x).size = 32 := labB_size _ _ _ _
  have n2 : (tagB x a).size = 32 := macB_size _ _
  rw [t3] at X4
  rw [t6] at X5
  have g1 := sigB_size true a
  have g2 := sigB_size true b
  have g3 := sig_other a
  have g4 := sig_front true a
  have g5 := sig_front true b
  generalize traX 4867 x = k1 at *
  generalize traI 4867 x = k2 at *
  generalize traX 4865 y = k3 at *
  generalize traI 4865 y = k4 at *
  generalize nxB x = k5 at *
  generalize tagB x a = k6 at *
  generalize hs1 : sigB true a = s1 at *
  generalize hs2 : sigB false a = s2 at *
  generalize hs3 : sigB true b = s3 at *
  have HG1 := Lib.hid hs2
  have HG2 := Lib.hid hs3
  generalize spB 64 ++ wTls ++ wWho true ++ wVer = pf at *
  have q_p : (pf.toList == pf.toList) = true := by simp
  have e0 : ((0 : Int) != 0) = false := by decide
  have E : ∀ (v : ByteArray) (m : Nat), v.size = m → ((v.size : Int) != (m : Int)) = false := fun v m h => by rw [bne_eq_false_iff_eq, h]
  have f1 : ((x.size : Int) != 32) = false := E x 32 x1
  have f2 : ((y.size : Int) != 32) = false := E y 32 y1
  have f3 : ((z.size : Int) != 32) = false := E z 32 z1
  have f4 : ((k1.size : Int) != 32) = false := E k1 32 t1
  have f5 : ((k2.size : Int) != 12) = false := E k2 12 t2
  have f6 : ((k3.size : Int) != 16) = false := E k3 16 t4
  have f7 : ((k4.size : Int) != 12) = false := E k4 12 t5
  have f8 : ((k5.size : Int) != 32) = false := E k5 32 n1
  have f9 : ((k6.size : Int) != 32) = false := E k6 32 n2
  have f10 : ((s1.size : Int) == 130) = true := by rw [beq_iff_eq]; omega
  have i1 : (98 : Int) ≤ (s1.size : Int) := by omega
  have i2 : (98 : Int) ≤ (s3.size : Int) := by omega
  by_cases hq : a = b
  · have q1 : (a.toList == b.toList) = true := by rw [hq]; simp
    have q2 : (x.toList == z.toList) = true := by rw [hab hq]; simp
    clear hab hq h0 h1 h2 x1 x2 y1 y2 z1 z2 t1 t2 t3 t4 t5 t6 n1 n2 g1 g2 E hs1 hs2 hs3
    go_enter Tryd.func7, Tryd.ntmps7
    go_wp2_with fail
    refine (X1.out _ HT.out).mono ?_
    rintro e W' ⟨rfl, bk⟩
    replace hb := hb.trans (bk.mono hb.size)
    replace HT := Lib.hid (HT.out.step bk)
    clear bk X1
    go_wp2_with fail
    refine (X2.out _ HT.out).mono ?_
    rintro e W' ⟨rfl, bk⟩
    replace hb := hb.trans (bk.mono hb.size)
    replace HT := Lib.hid (HT.out.step bk)
    clear bk X2
    go_wp2_with fail
    refine (X3.out _ HT.out).mono ?_
    rintro e W' ⟨rfl, bk⟩
    replace hb := hb.trans (bk.mono hb.size)
    replace HT := Lib.hid (HT.out.step bk)
    clear bk X3
    go_wp2_with fail
    refine (X4.out _ HT.out).mono ?_
    rintro e W' ⟨rfl, bk⟩
    replace hb := hb.trans (bk.mono hb.size)
    replace HT := Lib.hid (HT.out.step bk)
    clear bk X4
    go_wp2_with fail
    refine (X5.out _ HT.out).mono ?_
    rintro e W' ⟨rfl, bk⟩
    replace hb := hb.trans (bk.mono hb.size)
    replace HT := Lib.hid (HT.out.step bk)
    clear bk X5
    go_wp2_with fail
    refine (X6.out _ HT.out).mono ?_
    rintro e W' ⟨rfl, bk⟩
    replace hb := hb.trans (bk.mono hb.size)
    replace HT := Lib.hid (HT.out.step bk)
    clear bk X6
    go_wp2_with fail
    refine (X7.out _ HT.out).mono ?_
    rintro e W' ⟨rfl, bk⟩
    replace hb := hb.trans (bk.mono hb.size)
    replace HT := Lib.hid (HT.out.step bk)
    clear bk X7
    go_wp2_with fail
    refine (X8.out _ HT.out).mono ?_
    rintro e W' ⟨rfl, bk⟩
    replace hb := hb.trans (bk.mono hb.size)
    replace HT := Lib.hid (HT.out.step bk)
    clear bk X8
    go_wp2_with fail
    have C1 := Lib.hid (fun d os => Calls.regrown_of (C.signed false a (grow (redrawn W' d) os) (HT.out.step (below_regrown W' d os)) HSA.out))
    have C2 := Lib.hid (fun d os => Calls.regrown_of (C.signed true b (grow (redrawn W' d) os) (HT.out.step (below_regrown W' d os)) HSB.out))
    have C3 := Lib.hid (fun d os => Calls.regrown_of (kyawake_of C (grow (redrawn W' d) os) (HT.out.step (below_regrown W' d os))))
    rw [HG1.out] at C1
    rw [HG2.out] at C2
    refine wp_region_reads (by kernel_rfl) (by kernel_rfl) ?_
    repeat (first | go_big_quiet_step ((first | with_reducible exact C1.out _ _ | with_reducible exact C2.out _ _ | with_reducible exact C3.out _ _)) | quiet_step ((first | with_reducible exact C1.out _ _ | with_reducible exact C2.out _ _ | with_reducible exact C3.out _ _)))
    refine wpQuiet_nil ?_
    intro W9 bk
    replace hb := hb.trans (bk.mono hb.size)
    clear bk C1 C2 C3
    go_wp2_with fail
    go_ret
    exact ⟨rfl, hb⟩
  · have q1 : (a.toList == b.toList) = false := by
      rw [beq_eq_false_iff_ne, Lib.toList_data, Lib.toList_data]
      exact fun h => hq (ByteArray.ext (Array.toList_inj.1 h))
    clear hab hq h0 h1 h2 x1 x2 y1 y2 z1 z2 t1 t2 t3 t4 t5 t6 n1 n2 g1 g2 E hs1 hs2 hs3
    go_enter Tryd.func7, Tryd.ntmps7
    go_wp2_with fail
    refine (X1.out _ HT.out).mono ?_
    rintro e W' ⟨rfl, bk⟩
    replace hb := hb.trans (bk.mono hb.size)
    replace HT := Lib.hid (HT.out.step bk)
    clear bk X1
    go_wp2_with fail
    refine (X2.out _ HT.out).mono ?_
    rintro e W' ⟨rfl, bk⟩
    replace hb := hb.trans (bk.mono hb.size)
    replace HT := Lib.hid (HT.out.step bk)
    clear bk X2
    go_wp2_with fail
    refine (X3.out _ HT.out).mono ?_
    rintro e W' ⟨rfl, bk⟩
    replace hb := hb.trans (bk.mono hb.size)
    replace HT := Lib.hid (HT.out.step bk)
    clear bk X3
    go_wp2_with fail
    refine (X4.out _ HT.out).mono ?_
    rintro e W' ⟨rfl, bk⟩
    replace hb := hb.trans (bk.mono hb.size)
    replace HT := Lib.hid (HT.out.step bk)
    clear bk X4
    go_wp2_with fail
    refine (X5.out _ HT.out).mono ?_
    rintro e W' ⟨rfl, bk⟩
    replace hb := hb.trans (bk.mono hb.size)
    replace HT := Lib.hid (HT.out.step bk)
    clear bk X5
    go_wp2_with fail
    refine (X6.out _ HT.out).mono ?_
    rintro e W' ⟨rfl, bk⟩
    replace hb := hb.trans (bk.mono hb.size)
    replace HT := Lib.hid (HT.out.step bk)
    clear bk X6
    go_wp2_with fail
    refine (X7.out _ HT.out).mono ?_
    rintro e W' ⟨rfl, bk⟩
    replace hb := hb.trans (bk.mono hb.size)
    replace HT := Lib.hid (HT.out.step bk)
    clear bk X7
    go_wp2_with fail
    refine (X8.out _ HT.out).mono ?_
    rintro e W' ⟨rfl, bk⟩
    replace hb := hb.trans (bk.mono hb.size)
    replace HT := Lib.hid (HT.out.step bk)
    clear bk X8
    go_wp2_with fail
    have C1 := Lib.hid (fun d os => Calls.regrown_of (C.signed false a (grow (redrawn W' d) os) (HT.out.step (below_regrown W' d os)) HSA.out))
    have C2 := Lib.hid (fun d os => Calls.regrown_of (C.signed true b (grow (redrawn W' d) os) (HT.out.step (below_regrown W' d os)) HSB.out))
    have C3 := Lib.hid (fun d os => Calls.regrown_of (kyawake_of C (grow (redrawn W' d) os) (HT.out.step (below_regrown W' d os))))
    rw [HG1.out] at C1
    rw [HG2.out] at C2
    refine wp_region_reads (by kernel_rfl) (by kernel_rfl) ?_
    repeat (first | go_big_quiet_step ((first | with_reducible exact C1.out _ _ | with_reducible exact C2.out _ _ | with_reducible exact C3.out _ _)) | quiet_step ((first | with_reducible exact C1.out _ _ | with_reducible exact C2.out _ _ | with_reducible exact C3.out _ _)))
    refine wpQuiet_nil ?_
    intro W9 bk
    replace hb := hb.trans (bk.mono hb.size)
    clear bk C1 C2 C3
    go_wp2_with fail
    go_ret
    exact ⟨rfl, hb⟩
end Go.Proofs.YtjjgakkijhjaiaaDoor
