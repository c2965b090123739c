/- Package der: the first element of bytes: split, Read. -/
import Derived.Test.YtimokmhgpigliaaDpSlen
namespace Go.Proofs.Ytimokmhgpigliaa
open Go.RowKit Go.Sort
set_option maxRecDepth 100000
set_option linter.unusedSimpArgs false
set_option linter.unusedVariables false

theorem mid_mid (s : ByteArray) (k j n : Nat) (h : n ≤ (s.extract k s.size).size) : (s.extract k s.size).extract 0 n = s.extract k (k + n) := by
  apply ByteArray.ext
  apply Array.toList_inj.1
  rw [suf_size] at h
  simp only [ByteArray.data_extract, Array.toList_extract, List.extract_eq_take_drop, Nat.sub_zero, List.drop_zero, Nat.add_sub_cancel_left, List.take_take]
  rw [Nat.min_eq_left (by omega)]
/-- What split says, by what splitLength says of what is behind the first byte. -/
theorem rd_parts (s : ByteArray) (h : 0 < s.size) :
    rdErr s = (if rdB s.data.toList 0 % 32 = 31 then 11 else if slE (s.extract 1 s.size).data.toList ≠ 0 then slE (s.extract 1 s.size).data.toList else if (slR (s.extract 1 s.size)).size < slN (s.extract 1 s.size).data.toList then 10 else 0) ∧
    (rdErr s = 0 → slE (s.extract 1 s.size).data.toList = 0 ∧ rdBody s = (slR (s.extract 1 s.size)).extract 0 (slN (s.extract 1 s.size).data.toList) ∧ rdRest s = (slR (s.extract 1 s.size)).extract (slN (s.extract 1 s.size).data.toList) (slR (s.extract 1 s.size)).size) := by
  have hd : (s.extract 1 s.size).data.toList = s.data.toList.drop 1 := suf_list s 1
  have hsz : (s.extract 1 s.size).size = s.size - 1 := suf_size s 1
  have hlen : (s.data.toList.drop 1).length = s.size - 1 := by rw [List.length_drop, ← Lib.size_eq]
  obtain ⟨x, d, hx⟩ : ∃ x d, s.data.toList = x :: d := by
    cases hq : s.data.toList with
    | nil => rw [Lib.size_eq, hq] at h; exact absurd h (by decide)
    | cons x d => exact ⟨x, d, rfl⟩
  have hdd : s.data.toList.drop 1 = d := by rw [hx]; rfl
  obtain ⟨r1, r2, r3⟩ := rd_of_sl x d
  have hE : rdErr s = if x.toNat % 32 = 31 then 11 else if slE d ≠ 0 then slE d else if d.length - slA d < slN d then 10 else 0 := by rw [rdErr, hx, r3]
  have q0 : rdB s.data.toList 0 = x.toNat := by rw [hx]; rfl
  rw [hdd] at hd hlen
  have hR : slE d = 0 → slR (s.extract 1 s.size) = s.extract (1 + slA d) s.size := fun h0 => by rw [slR, hd, if_pos h0, suf_suf]
  have hRs : slE d = 0 → (slR (s.extract 1 s.size)).size = d.length - slA d := fun h0 => by rw [hR h0, suf_size, hlen]; omega
  rw [hd, q0]
  refine ⟨?_, fun h0 => ?_⟩
  · rw [hE]
    by_cases c1 : x.toNat % 32 = 31
    · rw [if_pos c1, if_pos c1]
    rw [if_neg c1, if_neg c1]
    by_cases c2 : slE d ≠ 0
    · rw [if_pos c2, if_pos c2]
    · rw [if_neg c2, if_neg c2, hRs (by simpa using c2)]
  · have h1 := h0
    rw [hE] at h1
    by_cases c1 : x.toNat % 32 = 31
    · rw [if_pos c1] at h1; cases h1
    rw [if_neg c1] at h1
    by_cases c2 : slE d ≠ 0
    · rw [if_pos c2] at h1; exact absurd h1 c2
    rw [if_neg c2] at h1
    by_cases c3 : d.length - slA d < slN d
    · rw [if_pos c3] at h1; cases h1
    have e0 : slE d = 0 := by simpa using c2
    have hN := r2 e0
    obtain ⟨_, g1, g2, _⟩ := rd_good s h0
    rw [hx, r1, hN] at g1 g2
    refine ⟨e0, ?_, ?_⟩
    · rw [g1, hR e0, mid_mid s (1 + slA d) 0 (slN d) (by rw [suf_size]; omega), Nat.add_comm (slA d) 1]
    · rw [g2, hR e0, suf_suf, Nat.add_comm (slA d) 1]
set_option maxHeartbeats 16000000 in
theorem split_any (s : ByteArray) (w : World) (hs : s.size ≤ 1000000000) :
    Calls Try.prog 33 #[.string s] w fun e w' => e = .returned (.tuple #[.int .i64 (rdTag s), .string (rdBody s), .string (rdRest s), .int .i64 (rdErr s)]) ∧ Below w.heap.size w w' := by
  have hb := Below.refl w.heap.size w
  have hl : s.data.toList.length = s.size := (Lib.size_eq s).symm
  by_cases c0 : s.size = 0
  · have q0 : (s.toList == []) = true := by rw [Lib.toList_data]; have : s.data.toList = [] := List.length_eq_zero_iff.1 (by omega); rw [this]; rfl
    have HB := Lib.hid (rd_bad s 10 (by rw [rdE, if_pos (by omega)]) (by decide))
    clear hs hl c0
    go_enter Try.func33, Try.ntmps33
    go_wp2_with fail
    (try simp only [Exit.inBlock, Exit.then])
    exact bodyPost_ret (results_tmp4 rfl _ _ _) rfl ⟨by rw [HB.out.1, HB.out.2.1, HB.out.2.2.1, HB.out.2.2.2]; rfl, hb⟩
  have q0 : (s.toList == []) = false := by rw [Lib.toList_data]; cases h : s.data.toList with | nil => rw [h] at hl; exact absurd hl.symm c0 | cons a r => rfl
  have hl0 : 0 < s.size := by omega
  have hi0 : (0 : Int) < (s.size : Int) := by omega
  have hi1 : (1 : Int) ≤ (s.size : Int) := by omega
  have hj1 : 1 ≤ s.size := by omega
  have t0 := rd_at s 0 hl0
  have h0 := rdB_lt s.data.toList 0
  have wb : IntKind.i64.wrap (rdB s.data.toList 0 : Int) = (rdB s.data.toList 0 : Int) := by rw [IntKind.wrap_i64]; omega
  have CT := Lib.hid (fun W => isTag_any (rdB s.data.toList 0 : Int) W (by omega) (by omega))
  rw [isT_byte _ h0] at CT
  obtain ⟨hE, hG⟩ := rd_parts s hl0
  have CS := Lib.hid (fun W => splitLen_any (s.extract 1 s.size) W (by rw [suf_size]; omega))
  have hslb := fun q (h : slE (s.extract 1 s.size).data.toList = q) (hq : q ≠ 0) => sl_bad (s.extract 1 s.size) q h hq
  have hslg := fun (h : slE (s.extract 1 s.size).data.toList = 0) => sl_good (s.extract 1 s.size) h
  have hbd := fun q (h : rdErr s = q) (hq : q ≠ 0) => rd_bad s q h hq
  have hgd := fun (h : rdErr s = 0) => rd_good s h
  have hrs : (slR (s.extract 1 s.size)).size ≤ s.size := by
    rw [slR]
    split
    · rw [suf_size, suf_size]; omega
    · exact Nat.zero_le _
  obtain ⟨b0, eb⟩ : ∃ b0, rdB s.data.toList 0 = b0 := ⟨_, rfl⟩
  rw [eb] at t0 wb CT hE h0
  have EB := Lib.hid eb
  clear eb hl c0
  obtain ⟨r, er⟩ : ∃ r, s.extract 1 s.size = r := ⟨_, rfl⟩
  rw [er] at CS hE hG hslb hslg hrs
  by_cases c1 : b0 % 32 = 31
  · rw [decide_eq_true c1, Bool.not_true] at CT
    have HB := Lib.hid (hbd 11 (by rw [hE, if_pos c1]) (by decide))
    clear hs hE hG hslb hslg hbd hgd c1 h0 hrs er CS
    go_enter Try.func33, Try.ntmps33
    go_wp2_with fail
    refine (CT.out _).mono ?_
    rintro e W1 ⟨rfl, bk⟩
    replace hb := hb.trans (bk.mono hb.size)
    clear bk CT
    go_wp2_with fail
    (try simp only [Exit.inBlock, Exit.then])
    exact bodyPost_ret (results_tmp4 rfl _ _ _) rfl ⟨by rw [HB.out.1, HB.out.2.1, HB.out.2.2.1, HB.out.2.2.2]; rfl, hb⟩
  rw [decide_eq_false c1, Bool.not_false] at CT
  rw [if_neg c1] at hE
  by_cases c2 : slE r.data.toList = 0
  · obtain ⟨z1, z2, z3⟩ := hslg c2
    have d2 : (slE r.data.toList != 0) = false := by rw [c2]; rfl
    rw [if_neg (by simp [c2])] at hE
    by_cases c3 : (slR r).size < slN r.data.toList
    · have HB := Lib.hid (hbd 10 (by rw [hE, if_pos c3]) (by decide))
      rw [c2, z1] at CS
      clear hs hE hG hslb hslg hbd hgd c1 h0 z1 z2 z3 d2 c2 hrs
      generalize slR r = rr at *
      generalize slN r.data.toList = n at *
      go_enter Try.func33, Try.ntmps33
      go_wp2_with fail
      refine (CT.out _).mono ?_
      rintro e W1 ⟨rfl, bk⟩
      replace hb := hb.trans (bk.mono hb.size)
      clear bk CT
      go_wp2_with fail
      refine (CS.out _).mono ?_
      rintro e W2 ⟨rfl, bk⟩
      replace hb := hb.trans (bk.mono hb.size)
      clear bk CS
      go_wp2_with fail
      (try simp only [Exit.inBlock, Exit.then])
      exact bodyPost_ret (results_tmp4 rfl _ _ _) rfl ⟨by rw [HB.out.1, HB.out.2.1, HB.out.2.2.1, HB.out.2.2.2]; rfl, hb⟩
    · have h00 : rdErr s = 0 := by rw [hE, if_neg c3]
      obtain ⟨_, y1, y2⟩ := hG h00
      obtain ⟨x0, _, _, x3⟩ := hgd h00
      rw [EB.out] at x0
      have HB : Hid (rdTag s = (b0 : Int) ∧ rdBody s = (slR r).extract 0 (slN r.data.toList) ∧ rdRest s = (slR r).extract (slN r.data.toList) (slR r).size ∧ rdErr s = 0) := Lib.hid ⟨x0, y1, y2, x3⟩
      rw [c2, z1] at CS
      clear hE hG hslb hslg hbd hgd c1 h0 z1 z2 z3 d2 c2 h00 y1 y2 x0 x3
      generalize slR r = rr at *
      generalize slN r.data.toList = n at *
      have f2 : n ≤ rr.size := by omega
      have f1 : (0 : Int) ≤ (n : Int) := by omega
      have f3 : (n : Int) ≤ (rr.size : Int) := by omega
      obtain ⟨bd, ebd⟩ : ∃ bd, rr.extract 0 n = bd := ⟨_, rfl⟩
      obtain ⟨rs, ers⟩ : ∃ rs, rr.extract n rr.size = rs := ⟨_, rfl⟩
      rw [ebd, ers] at HB
      clear hs hrs
      go_enter Try.func33, Try.ntmps33
      go_wp2_with fail
      refine (CT.out _).mono ?_
      rintro e W1 ⟨rfl, bk⟩
      replace hb := hb.trans (bk.mono hb.size)
      clear bk CT
      go_wp2_with fail
      refine (CS.out _).mono ?_
      rintro e W2 ⟨rfl, bk⟩
      replace hb := hb.trans (bk.mono hb.size)
      clear bk CS
      go_wp2_with fail
      refine wp_region_told 10 39 [(Told.val (.int .i64 (b0 : Int)), [6]),
        (Told.val (.string rr), [8]),
        (Told.val (.int .i64 (n : Int)), [7]),
        (Told.val (.string bd), [33, 34]),
        (Told.val (.string rr), [8]),
        (Told.val (.int .i64 (n : Int)), [7]),
        (Told.val (.string rs), [36, 37]),
        (Told.val (.int .i64 (b0 : Int)), [32]),
        (Told.val (.string bd), [35]),
        (Told.val (.string rs), [38])]
        (by kernel_rfl) (by kernel_rfl) rfl ?_ ?_
      · simp only [List.take_succ_cons, List.take_zero, toldObl, and_true]
        refine And.intro ?_ (And.intro ?_ (And.intro ?_ (And.intro ?_ (And.intro ?_ (And.intro ?_ (And.intro ?_ (And.intro ?_ (And.intro ?_ (?_)))))))))
        · intro a w hb h
          have e0 : a.tmps.getD 6 undef = .int .i64 (b0 : Int) := h 6 (by simp)
          simp only [Array.getD_eq_getD_getElem?] at e0
          refine told_q ?_
          simp [go_sem, e0, sQuiet]
        · intro a w hb h
          have e0 : a.tmps.getD 8 undef = .string rr := h 8 (by simp)
          simp only [Array.getD_eq_getD_getElem?] at e0
          refine told_q ?_
          simp [go_sem, e0, sQuiet]
        · intro a w hb h
          have e0 : a.tmps.getD 7 undef = .int .i64 (n : Int) := h 7 (by simp)
          simp only [Array.getD_eq_getD_getElem?] at e0
          refine told_q ?_
          simp [go_sem, e0, sQuiet]
        · intro a w hb h
          have e0 : a.tmps.getD 33 undef = .string rr := h 33 (by simp)
          have e1 : a.tmps.getD 34 undef = .int .i64 (n : Int) := h 34 (by simp)
          simp only [Array.getD_eq_getD_getElem?] at e0 e1
          refine told_q ?_
          simp [go_sem, e0, e1, sQuiet, f1, f2, f3, ebd]
        · intro a w hb h
          have e0 : a.tmps.getD 8 undef = .string rr := h 8 (by simp)
          simp only [Array.getD_eq_getD_getElem?] at e0
          refine told_q ?_
          simp [go_sem, e0, sQuiet]
        · intro a w hb h
          have e0 : a.tmps.getD 7 undef = .int .i64 (n : Int) := h 7 (by simp)
          simp only [Array.getD_eq_getD_getElem?] at e0
          refine told_q ?_
          simp [go_sem, e0, sQuiet]
        · intro a w hb h
          have e0 : a.tmps.getD 36 undef = .string rr := h 36 (by simp)
          have e1 : a.tmps.getD 37 undef = .int .i64 (n : Int) := h 37 (by simp)
          simp only [Array.getD_eq_getD_getElem?] at e0 e1
          refine told_q ?_
          simp [go_sem, e0, e1, sQuiet, f1, f2, f3, ers]
        · intro a w hb h
          have e0 : a.tmps.getD 32 undef = .int .i64 (b0 : Int) := h 32 (by simp)
          simp only [Array.getD_eq_getD_getElem?] at e0
          refine told_q ?_
          simp [go_sem, e0, sQuiet]
        · intro a w hb h
          have e0 : a.tmps.getD 35 undef = .string bd := h 35 (by simp)
          simp only [Array.getD_eq_getD_getElem?] at e0
          refine told_q ?_
          simp [go_sem, e0, sQuiet]
        · intro a w hb h
          have e0 : a.tmps.getD 38 undef = .string rs := h 38 (by simp)
          simp only [Array.getD_eq_getD_getElem?] at e0
          refine told_q ?_
          simp [go_sem, e0, sQuiet]
      simp only [List.take_succ_cons, List.take_zero, List.drop_succ_cons, List.drop_zero, toldEnd, Act.put, List.setIfInBounds_toArray, List.set_cons_succ, List.set_cons_zero]
      rintro X bk v32 q32 v33 q33 v34 q34 v35 q35 v36 q36 v37 q37 v38 q38 v2 q2 v3 q3 v4 q4
      obtain rfl := q32.symm
      obtain rfl := q33.symm
      obtain rfl := q34.symm
      obtain rfl := q35.symm
      obtain rfl := q36.symm
      obtain rfl := q37.symm
      obtain rfl := q38.symm
      obtain rfl := q2.symm
      obtain rfl := q3.symm
      obtain rfl := q4.symm
      clear q32 q33 q34 q35 q36 q37 q38 q2 q3 q4
      replace hb := hb.trans (bk.mono hb.size)
      clear bk
      go_wp2_with fail
      (try simp only [Exit.inBlock, Exit.then])
      exact bodyPost_ret (results_tmp4 rfl _ _ _) rfl ⟨by rw [HB.out.1, HB.out.2.1, HB.out.2.2.1, HB.out.2.2.2]; rfl, hb⟩
  · have d2 : (slE r.data.toList != 0) = true := by simp [c2]
    obtain ⟨z1, z2, z3⟩ := hslb _ rfl c2
    rw [if_pos c2] at hE
    have HB := Lib.hid (hbd _ hE c2)
    rw [z1, z2] at CS
    clear hs hE hG hslb hslg hbd hgd c1 h0 z1 z2 z3 c2 hrs
    generalize slE r.data.toList = q at *
    go_enter Try.func33, Try.ntmps33
    go_wp2_with fail
    refine (CT.out _).mono ?_
    rintro e W1 ⟨rfl, bk⟩
    replace hb := hb.trans (bk.mono hb.size)
    clear bk CT
    go_wp2_with fail
    refine (CS.out _).mono ?_
    rintro e W2 ⟨rfl, bk⟩
    replace hb := hb.trans (bk.mono hb.size)
    clear bk CS
    go_wp2_with fail
    (try simp only [Exit.inBlock, Exit.then])
    exact bodyPost_ret (results_tmp4 rfl _ _ _) rfl ⟨by rw [HB.out.1, HB.out.2.1, HB.out.2.2.1, HB.out.2.2.2]; rfl, hb⟩
set_option maxHeartbeats 4000000 in
theorem read_any (s : ByteArray) (w : World) (hs : s.size ≤ 1000000000) :
    Calls Try.prog 17 #[.string s] w fun e w' => e = .returned (.tuple #[.int .i64 (rdTag s), .string (rdBody s), .string (rdRest s), .int .i64 (rdErr s)]) ∧ Below w.heap.size w w' := by
  have CS := Lib.hid (fun W => split_any s W hs)
  have hsz : (rdBody s).size ≤ s.size ∧ (rdRest s).size ≤ s.size := by
    by_cases h : rdErr s = 0
    · obtain ⟨h1, h2⟩ := rd_sizes s h
      exact ⟨h1, Nat.le_of_lt h2⟩
    · obtain ⟨_, h1, h2, _⟩ := rd_bad s _ rfl h
      rw [h1, h2]
      exact ⟨Nat.zero_le _, Nat.zero_le _⟩
  have C1 := Lib.hid (fun W => clone_any (rdBody s) W (by omega))
  have C2 := Lib.hid (fun W => clone_any (rdRest s) W (by omega))
  have hb := Below.refl w.heap.size w
  clear hs hsz
  generalize rdBody s = bd at *
  generalize rdRest s = rs at *
  generalize rdTag s = tg at *
  generalize rdErr s = q at *
  go_enter Try.func17, Try.ntmps17
  go_wp2_with fail
  refine (CS.out _).mono ?_
  rintro e W1 ⟨rfl, bk⟩
  replace hb := hb.trans (bk.mono hb.size)
  clear bk CS
  go_wp2_with fail
  refine (C1.out _).mono ?_
  rintro e W2 ⟨rfl, bk⟩
  replace hb := hb.trans (bk.mono hb.size)
  clear bk C1
  go_wp2_with fail
  refine (C2.out _).mono ?_
  rintro e W3 ⟨rfl, bk⟩
  replace hb := hb.trans (bk.mono hb.size)
  clear bk C2
  go_wp2_with fail
  (try simp only [Exit.inBlock, Exit.then])
  exact bodyPost_ret (results_tmp4 rfl _ _ _) rfl ⟨rfl, hb⟩
end Go.Proofs.Ytimokmhgpigliaa
