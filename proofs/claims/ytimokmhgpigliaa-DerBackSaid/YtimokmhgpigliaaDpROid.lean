/- Package der: ReadOid. -/
import Derived.Test.YtimokmhgpigliaaDpNums
namespace Go.Proofs.Ytimokmhgpigliaa
open Go.RowKit Go.Sort
set_option maxRecDepth 100000
set_option linter.unusedSimpArgs false
set_option linter.unusedVariables false

theorem vlF_take (n : Nat) (l : List UInt8) : ∀ (k t : Nat), k ≤ t → vlF n (l.take t) k = vlF n l k
  | 0, t, _ => rfl
  | k + 1, t, h => by
    rw [vlF, vlF, vlF_take n l k t (by omega)]
    congr 1
    rw [rdB, rdB, List.getD_eq_getElem?_getD, List.getElem?_take, if_pos (by omega), ← List.getD_eq_getElem?_getD]
set_option maxHeartbeats 16000000 in
theorem readOid_any (s : ByteArray) (w : World) (hs : s.size ≤ 1000000) :
    Calls Try.prog 27 #[.string s] w fun e w' => (∃ ao c, e = .returned (.tuple #[.slice ao (roV s).length c, .int .i64 (roErr s)]) ∧ IntsAt w' ao (roV s) ∧ (roV s).length ≤ c) ∧ Below w.heap.size w w' := by
  have hl : s.data.toList.length = s.size := (Lib.size_eq s).symm
  obtain ⟨i0, hi, hz0, hz1, hz2⟩ := info_parts infoI13
  have hb := Below.refl w.heap.size w
  by_cases c0 : s.size = 0
  · have q0 : (s.toList == []) = true := by rw [Lib.toList_data]; have : s.data.toList = [] := List.length_eq_zero_iff.1 (by omega); rw [this]; rfl
    have HE := Lib.hid (ro_err s 10 (if_pos (.inl c0)) (by decide))
    clear hl hs
    go_enter Try.func27, Try.ntmps27
    go_wp2_with fail
    go_ret2
    exact ⟨⟨none, 0, by rw [HE.out.1, HE.out.2]; rfl, by rw [HE.out.1]; exact IntsAt.nil _ _, by rw [HE.out.1]; exact Nat.le_refl _⟩, hb⟩
  have q0 : (s.toList == []) = false := by rw [Lib.toList_data]; cases h : s.data.toList with | nil => rw [h] at hl; exact absurd hl.symm c0 | cons a r => rfl
  obtain ⟨j, hj⟩ : ∃ j, s.size = j + 1 := ⟨s.size - 1, by omega⟩
  have j1 : (s.size : Int) - 1 = (j : Int) := by omega
  have j2 : (j : Int) < (s.size : Int) := by omega
  have j3 : IntKind.i64.wrap (j : Int) = (j : Int) := by rw [IntKind.wrap_i64]; omega
  have j4 : j < s.size := by omega
  have tj := rd_at s j (by omega)
  have hj256 := rdB_lt s.data.toList j
  have hd := and128_of _ hj256
  by_cases c1 : 128 ≤ rdB s.data.toList j
  · rw [decide_eq_true c1] at hd
    have HE := Lib.hid (ro_err s 10 (if_pos (.inr (by rw [hj, Nat.add_sub_cancel]; exact c1))) (by decide))
    clear hl hs hj c1
    generalize rdB s.data.toList j = b at *
    go_enter Try.func27, Try.ntmps27
    go_wp2_with fail
    go_ret2
    exact ⟨⟨none, 0, by rw [HE.out.1, HE.out.2]; rfl, by rw [HE.out.1]; exact IntsAt.nil _ _, by rw [HE.out.1]; exact Nat.le_refl _⟩, hb⟩
  rw [decide_eq_false c1] at hd
  have HST := Lib.hid (oinv_start s c0 (by rw [hj, Nat.add_sub_cancel]; omega))
  have HPOS : Hid (¬ (s.size = 0 ∨ 128 ≤ rdB s.data.toList (s.size - 1))) := Lib.hid (by rw [hj, Nat.add_sub_cancel]; omega)
  have HSZ := Lib.hid hs
  clear hl hj c1 hs
  generalize rdB s.data.toList j = bj at tj hj256 hd
  go_enter Try.func27, Try.ntmps27
  go_wp2_with fail
  clear tj hj256 hd j1 j2 j3 j4 q0 c0
  generalize hBB : w.heap.size = B at *
  have HBB := Lib.hid hBB
  have hB0 : B ≤ w.heap.size := by omega
  clear hBB
  go_loopw [0, 4, 5, 6] (fun sv vv bv nv wr => ∃ (c : ByteArray) (bg : Bool) (vs : List Nat) (ao : Option Addr) (cp k : Nat), sv = .string c ∧ vv = .slice ao k cp ∧ bv = .bool bg ∧ vs.length = k ∧ OInv s c bg vs ∧ Own wr B (.slice ao k cp) (iCells (nats vs)) ∧ Below B w wr ∧ B ≤ wr.heap.size) (fun sv _ _ _ _ => (match sv with | .string c => c.size | _ => 0))
  case atStart => exact ⟨s, false, [], none, 0, 0, rfl, rfl, rfl, rfl, HST.out, Own.nil _ _, hb, hB0⟩
  case round =>
    clear hb HST hB0
    obtain ⟨c, bg, vs, ao, cp, k, rfl, rfl, rfl, hk, hinv, hown, hb, hB⟩ := hrel
    have hcs : c.size ≤ 1000000 := by
      have h1 := HSZ.out
      have h2 : c.size ≤ s.size := by obtain ⟨_, _, _, _, _, _, _, _, _, h, _⟩ := hinv; exact h
      omega
    have HO := Lib.hid hown
    clear hown
    by_cases c0 : c.size = 0
    · have q0 : c.toList.isEmpty = true := by rw [Lib.toList_data]; have : c.data.toList = [] := List.length_eq_zero_iff.1 (by rw [← Lib.size_eq]; exact c0); rw [this]; rfl
      obtain ⟨y1, y2⟩ := oinv_end s c bg vs hinv c0 HPOS.out
      cases bg with
      | true =>
        have HE := Lib.hid (y1 rfl)
        clear y1 y2 HO hinv c0 hcs hk
        go_wp2_with fail
        go_ret2
        exact ⟨⟨none, 0, by rw [HE.out.1, HE.out.2]; rfl, by rw [HE.out.1]; exact IntsAt.nil _ _, by rw [HE.out.1]; exact Nat.le_refl _⟩, by rw [HBB.out]; exact hb⟩
      | false =>
        obtain ⟨y3, y4, y5, y6, y7⟩ := y2 rfl
        obtain ⟨v, r, rfl⟩ : ∃ v r, vs = v :: r := by cases vs with | nil => exact absurd rfl y5 | cons v r => exact ⟨v, r, rfl⟩
        have hlen : (iCells (nats (v :: r))).length = k := by rw [iCells_length, nats_length]; exact hk
        obtain ⟨g, cc, e, hoG, _⟩ := HO.out.some (by rw [iCells_length, nats_length]; simp)
        rw [hlen] at e
        cases e
        have CN := Lib.hid (numbersOf_any g k cp B v r wr hk (by rw [← hk]; exact y7) (y6 v (by simp)) hoG hB)
        have HE : Hid (roErr s = 0 ∧ roV s = namesOf (v :: r)) := Lib.hid ⟨y3, y4⟩
        have HLN : Hid ((namesOf (v :: r)).length = k + 1) := Lib.hid (by
          have := congrArg List.length (names_cells v r)
          rw [iCells_length, List.length_append, iCells_length, nats_length] at this
          have h2 : (v :: r).length = k := hk
          simp at this h2
          omega)
        clear y1 y2 HO hinv c0 hcs hk y3 y4 y5 y6 y7 hlen hoG
        generalize namesOf (v :: r) = nm at *
        go_wp2_with fail
        refine CN.out.mono ?_
        rintro e W1 ⟨⟨ao1, cp1, rfl, hI, hcp1⟩, bk⟩
        replace hb := hb.trans bk
        have HI := Lib.hid hI
        clear bk CN hI
        go_wp2_with fail
        go_ret2
        exact ⟨⟨ao1, cp1, by rw [HE.out.1, HE.out.2, HLN.out]; rfl, by rw [HE.out.2]; exact HI.out, by rw [HE.out.2, HLN.out]; exact hcp1⟩, by rw [HBB.out]; exact hb⟩
    have q0 : c.toList.isEmpty = false := by
      rw [Lib.toList_data]
      cases h : c.data.toList with
      | nil => exact absurd (by rw [Lib.size_eq, h]; rfl) c0
      | cons a r => rfl
    have i0' : (0 : Int) < (c.size : Int) := by omega
    have i1' : 0 < c.size := by omega
    have t0 := rd_at c 0 (by omega)
    by_cases c8 : rdB c.data.toList 0 = 128
    · have e8 : ((rdB c.data.toList 0 : Int) == 128) = true := by rw [c8]; rfl
      have HE := Lib.hid (ro_err s 11 (by rw [roErr, if_neg HPOS.out, oinv_stop s c bg vs hinv c0 c8]) (by decide))
      clear hinv c0 c8 hcs hk HO
      generalize rdB c.data.toList 0 = b0 at *
      go_wp2_with fail
      go_ret2
      exact ⟨⟨none, 0, by rw [HE.out.1, HE.out.2]; rfl, by rw [HE.out.1]; exact IntsAt.nil _ _, by rw [HE.out.1]; exact Nat.le_refl _⟩, by rw [HBB.out]; exact hb⟩
    have e8 : ((rdB c.data.toList 0 : Int) == 128) = false := by simp; omega
    obtain ⟨n1, n2, n3, n4⟩ := oinv_next s c bg vs hinv c0 c8
    have CS := Lib.hid (fun W => sizeOf_any c W hcs (by obtain ⟨_, _, _, _, _, _, _, h, _⟩ := hinv; exact h c0))
    have CV := Lib.hid (fun (h : hdN c.data.toList ≤ 4) W => valueOf_any (c.extract 0 (hdN c.data.toList)) W (by rw [ByteArray.size_extract]; omega))
    have HPL : Hid (hdN c.data.toList ≤ c.size → vlF 0 (c.extract 0 (hdN c.data.toList)).data.toList (c.extract 0 (hdN c.data.toList)).size = vlF 0 c.data.toList (hdN c.data.toList)) := Lib.hid (fun h => by
      rw [show (c.extract 0 (hdN c.data.toList)).size = hdN c.data.toList by rw [ByteArray.size_extract]; omega, pre_list]
      exact vlF_take 0 c.data.toList _ _ (Nat.le_refl _))
    have HMS : Hid ((c.extract (hdN c.data.toList) c.size).size < c.size) := Lib.hid (by rw [suf_size]; omega)
    generalize rdB c.data.toList 0 = b0 at *
    clear hinv c8 c0
    generalize hdN c.data.toList = t at *
    have f0 : (0 : Int) ≤ (t : Int) := by omega
    have f1 : (t : Int) ≤ (c.size : Int) := by omega
    obtain ⟨rs, ers⟩ : ∃ rs, c.extract t c.size = rs := ⟨_, rfl⟩
    rw [ers] at n3 n4 HMS
    have HK := Lib.hid hk
    cases bg with
    | true =>
      have HN := Lib.hid (n3 (.inl rfl))
      clear n3 n4 HPL CV
      go_wp2_with fail
      refine (CS.out _).mono ?_
      rintro e W1 ⟨rfl, bk⟩
      replace hb := hb.trans (bk.mono hB)
      have HO1 := Lib.hid (HO.out.below bk)
      replace hB := Nat.le_trans hB bk.size
      clear bk CS HO
      go_wp2_with fail
      go_roundw
      case rel => exact ⟨rs, true, vs, ao, cp, k, rfl, rfl, rfl, HK.out, HN.out, HO1.out, hb, hB⟩
      case measure => exact HMS.out
    | false =>
    by_cases c4 : 4 < t
    · have d4 : decide ((4 : Int) < (t : Int)) = true := by simp; omega
      have HN := Lib.hid (n3 (.inr (.inl c4)))
      clear n3 n4 HPL CV
      go_wp2_with fail
      refine (CS.out _).mono ?_
      rintro e W1 ⟨rfl, bk⟩
      replace hb := hb.trans (bk.mono hB)
      have HO1 := Lib.hid (HO.out.below bk)
      replace hB := Nat.le_trans hB bk.size
      clear bk CS HO
      go_wp2_with fail
      go_roundw
      case rel => exact ⟨rs, true, vs, ao, cp, k, rfl, rfl, rfl, HK.out, HN.out, HO1.out, hb, hB⟩
      case measure => exact HMS.out
    have d4 : decide ((4 : Int) < (t : Int)) = false := by simp; omega
    by_cases c19 : k = 19
    · have d19 : ((k : Int) == 19) = true := by rw [c19]; rfl
      have HN := Lib.hid (n3 (.inr (.inr (by rw [hk]; exact c19))))
      clear n3 n4 c19 HPL CV
      go_wp2_with fail
      refine (CS.out _).mono ?_
      rintro e W1 ⟨rfl, bk⟩
      replace hb := hb.trans (bk.mono hB)
      have HO1 := Lib.hid (HO.out.below bk)
      replace hB := Nat.le_trans hB bk.size
      clear bk CS HO
      go_wp2_with fail
      go_roundw
      case rel => exact ⟨rs, true, vs, ao, cp, k, rfl, rfl, rfl, HK.out, HN.out, HO1.out, hb, hB⟩
      case measure => exact HMS.out
    · have d19 : ((k : Int) == 19) = false := by simp; omega
      obtain ⟨m1, m2⟩ := n4 rfl (by omega) (by rw [hk]; exact c19)
      have CV2 := Lib.hid (fun W => CV.out (by omega) W)
      rw [HPL.out n2] at CV2
      obtain ⟨pf, epf⟩ : ∃ pf, c.extract 0 t = pf := ⟨_, rfl⟩
      rw [epf] at CV2
      obtain ⟨v, ev⟩ : ∃ v, vlF 0 c.data.toList t = v := ⟨_, rfl⟩
      rw [ev] at m1 m2 CV2
      have HN := Lib.hid m1
      have hk19 : k ≤ 19 := by
        obtain ⟨_, _, _, _, _, h, _⟩ := m1
        rw [List.length_append, hk] at h
        simp at h
        omega
      have HLN := Lib.hid (show (iCells (nats vs)).length = k by rw [iCells_length, nats_length]; exact hk)
      have HK1 := Lib.hid (show (vs ++ [v]).length = k + 1 by rw [List.length_append, hk]; rfl)
      have HCN : Hid (iCells (nats (vs ++ [v])) = iCells (nats vs) ++ [.int .i64 (v : Int)]) := Lib.hid (by rw [nats_snoc, iCells_append]; rfl)
      clear n3 n4 HPL CV m1 ev
      go_wp2_with fail
      refine (CS.out _).mono ?_
      rintro e W1 ⟨rfl, bk⟩
      replace hb := hb.trans (bk.mono hB)
      have HO1 := Lib.hid (HO.out.below bk)
      replace hB := Nat.le_trans hB bk.size
      clear bk CS HO
      go_wp2_with fail
      refine (CV2.out _).mono ?_
      rintro e W2 ⟨rfl, bk⟩
      replace hb := hb.trans (bk.mono hB)
      have HO2 := Lib.hid (HO1.out.below bk)
      replace hB := Nat.le_trans hB bk.size
      clear bk CV2 HO1
      go_wp2_with (at_builtin; refine wpList_append_sl rfl (.tmp 37) (.tmp 42) 34 rfl B 3 i0 (.int .i64 0) 8 Try.underlying34 hi hz0 hz1 hz2 rfl ao k cp _ rfl (HO2.out.alloc _) HLN.out ⟨_, 0, none⟩ 1 1 [.int .i64 _] rfl rfl (cell_int_new _ _ _) ?p2 ?p3 ?p4 ?p5 ?_)
      case p2 => intro u hu; simp at hu; subst hu; rfl
      case p3 => omega
      case p4 => omega
      case p5 => simp; omega
      intro ao7 cp7 W7 hown7 hgrow7
      have hb7 : Below B W2 W7 := below_append ((Below.refl B W2).alloc hB _) (by simp; omega) (HO2.out.alloc _) hgrow7
      have hB7 : B ≤ W7.heap.size := by have := hgrow7.size; simp at this; omega
      have HO7 : Hid (Own W7 B (.slice ao7 (k + 1) cp7) (iCells (nats (vs ++ [v])))) := Lib.hid (by rw [HCN.out]; exact hown7)
      have hb8 := hb.trans hb7
      clear hown7 hgrow7 HO2 hb hb7
      go_wp2_with fail
      go_roundw
      case rel => exact ⟨rs, false, vs ++ [v], ao7, cp7, k + 1, rfl, rfl, rfl, HK1.out, HN.out, HO7.out, hb8, hB7⟩
      case measure => exact HMS.out
end Go.Proofs.Ytimokmhgpigliaa
