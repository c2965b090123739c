/- DerNumbers over whatever the program's calls are. -/
import Derived.Test.YtimokmhgpigliaaDrCalls
import Derived.Test.YtimokmhgpigliaaDrNum
import Derived.Test.YtimokmhgpigliaaDrOid
import Derived.Test.YtimokmhgpigliaaDerReadOidOf
import Derived.Test.YtimokmhgpigliaaDrBack
namespace Go.Proofs.Ytimokmhgpigliaa
open Go.RowKit Go.Sort
set_option maxRecDepth 100000
set_option linter.unusedSimpArgs false
set_option linter.unusedVariables false

theorem rd_wr0 (n : Int) (b : ByteArray) (h : wrE n b = 0) : rdTag (wrX n b) = n ∧ rdBody (wrX n b) = b ∧ rdRest (wrX n b) = ⟨#[]⟩ ∧ rdErr (wrX n b) = 0 := by
  have h2 := rd_wr n b ⟨#[]⟩ h
  have e : wrX n b ++ (⟨#[]⟩ : ByteArray) = wrX n b := ByteArray.append_empty
  rwa [e] at h2
theorem wr_small (n : Int) (b : ByteArray) : (wrX n b).size ≤ b.size + 4 := by
  rw [wrX]
  split
  · rw [ByteArray.size_append]
    have : (⟨(wrL n b.size).toArray⟩ : ByteArray).size = (wrL n b.size).length := List.size_toArray
    rw [this, wrL, lenL]
    split
    · simp; omega
    · split <;> (simp; omega)
  · show 0 ≤ _
    omega
theorem oid_len (zs : List Int) (h : oidErr zs = 0) : zs.length ≤ 20 := by
  match zs, h with
  | [], h => cases h
  | [_], h => cases h
  | a :: b :: r, h =>
    have := (oidErr_facts a b r h).2.2.2.2.2.2
    simp
    omega
theorem ro_bounds (s : ByteArray) (h : roErr s = 0) : 2 ≤ (roV s).length ∧ ∀ k, -9223372036854775808 ≤ (roV s).getD k 0 ∧ (roV s).getD k 0 ≤ 9223372036854775807 := by
  obtain ⟨v, r, _, h2, _, h4, h5⟩ := ro_facts s h
  have hv := h4 v (by simp)
  have hm : ∀ z ∈ roV s, 0 ≤ z ∧ z ≤ 268435455 := fun z hz => by
    rw [h5] at hz
    rcases List.mem_append.1 hz with hz | hz
    · rw [firstOf] at hz
      split at hz
      · simp at hz; omega
      · simp at hz; omega
    · obtain ⟨x, hx, rfl⟩ := List.mem_map.1 hz
      have := h4 x (by simp [hx])
      omega
  refine ⟨?_, fun k => ?_⟩
  · rw [h5, List.length_append]
    have : (firstOf v).length = 2 := by rw [firstOf]; split <;> rfl
    omega
  · by_cases c : k < (roV s).length
    · have := hm _ (List.getElem_mem c)
      rw [List.getD_eq_getElem?_getD, List.getElem?_eq_getElem c, Option.getD_some]
      omega
    · rw [List.getD_eq_getElem?_getD, List.getElem?_eq_none (by omega)]
      simp
set_option maxHeartbeats 16000000 in
theorem derNumbers_of (C : DrCalls) (HA0 : ∀ W : World, Calls Try.prog 14 #[] W fun e w' => e = .returned (.bool true) ∧ Below W.heap.size W w') (n : Int) (h0 : -9223372036854775808 ≤ n) (h1 : n ≤ 9223372036854775807) (ao : Option Addr) (ln cp : Nat) (zs : List Int) (hl : zs.length = ln) (hz : ∀ k, -9223372036854775808 ≤ zs.getD k 0 ∧ zs.getD k 0 ≤ 9223372036854775807) (hlc : ln ≤ cp) (s : ByteArray) (w : World) (hi : IntsAt w ao zs) :
    Calls Try.prog 9 #[.int .i64 n, .slice ao ln cp, .string s] w fun e w' => e = .returned (.bool true) ∧ Below w.heap.size w w' := by
  have HA := Lib.hid HA0
  have hb := Below.refl w.heap.size w
  clear HA0
  by_cases h : ln > 50
  · have d1 : decide (50 < (ln : Int)) = true := by simp; omega
    go_enter Try.func9, Try.ntmps9
    go_wp2_with fail
    refine (HA.out w).mono ?_
    rintro e W1 ⟨rfl, bk⟩
    replace hb := hb.trans (bk.mono hb.size)
    clear bk
    go_wp2_with fail
    go_ret
    exact ⟨rfl, hb⟩
  have d1 : decide (50 < (ln : Int)) = false := by simp; omega
  by_cases h' : s.size > 100
  · have d2 : decide (100 < (s.size : Int)) = true := by simp; omega
    go_enter Try.func9, Try.ntmps9
    go_wp2_with fail
    refine (HA.out w).mono ?_
    rintro e W1 ⟨rfl, bk⟩
    replace hb := hb.trans (bk.mono hb.size)
    clear bk
    go_wp2_with fail
    go_ret
    exact ⟨rfl, hb⟩
  have d2 : decide (100 < (s.size : Int)) = false := by simp; omega
  have C1 := Lib.hid (fun W => C.int n W h0 h1)
  have hi8 := intB_size n
  have w1 := wr_small 2 (intB n)
  obtain ⟨q1, q2, q3, q4⟩ := rd_wr0 2 (intB n) (int_wr n)
  have C2 := Lib.hid (fun W => C.rd (wrX 2 (intB n)) W (by omega))
  rw [q1, q2, q3, q4] at C2
  obtain ⟨r1, r2⟩ := int_back n h0 h1
  have C3 := Lib.hid (fun W => C.ri (intB n) W (by omega))
  rw [r1, r2] at C3
  have C4 := Lib.hid (fun W hI => C.oid ao ln cp zs W hl (by omega) hlc hz hI)
  have HI := Lib.hid hi
  have HLL := Lib.hid hl
  have HZ := Lib.hid hz
  have e1 : (n != n) = false := by simp
  have e2 : (s.toList != s.toList) = false := by simp
  have hl50 : ln ≤ 50 := by omega
  have hs100 : s.size ≤ 100 := by omega
  have C7 := Lib.hid (fun W => C.ri s W (by omega))
  have C10 := Lib.hid (fun W => C.ro s W (by omega))
  have HC := Lib.hid C
  generalize wrX 2 (intB n) = x1 at *
  generalize intB n = x2 at *
  clear C q1 q2 q3 q4 r1 r2 hi hl hz hlc h h' w1 hi8 h0 h1
  go_enter Try.func9, Try.ntmps9
  go_wp2_with fail
  refine (C1.out w).mono ?_
  rintro e W1 ⟨rfl, bk⟩
  replace HI := Lib.hid (HI.out.step bk)
  replace hb := hb.trans (bk.mono hb.size)
  clear bk
  go_wp2_with fail
  refine (C2.out W1).mono ?_
  rintro e W2 ⟨rfl, bk⟩
  replace HI := Lib.hid (HI.out.step bk)
  replace hb := hb.trans (bk.mono hb.size)
  clear bk
  go_wp2_with fail
  refine (C3.out W2).mono ?_
  rintro e W3 ⟨rfl, bk⟩
  replace HI := Lib.hid (HI.out.step bk)
  replace hb := hb.trans (bk.mono hb.size)
  clear bk
  go_wp2_with fail
  refine (C4.out W3 HI.out).mono ?_
  rintro e W4 ⟨rfl, bk⟩
  replace HI := Lib.hid (HI.out.step bk)
  replace hb := hb.trans (bk.mono hb.size)
  clear bk
  by_cases c1 : oidErr zs = 0
  · have HOB := Lib.hid (oid_back zs c1)
    have hlz := oid_len zs c1
    have hbs := oidB_size zs hlz
    have w3 := wr_small 6 (oidB zs)
    obtain ⟨p1, p2, p3, p4⟩ := rd_wr0 6 (oidB zs) (oid_wr zs hlz)
    have C5 := Lib.hid (fun W => HC.out.rd (wrX 6 (oidB zs)) W (by omega))
    rw [p1, p2, p3, p4] at C5
    have C6 := Lib.hid (fun W => HC.out.roW (oidB zs) W (by omega))
    rw [HOB.out.1, HOB.out.2, HLL.out] at C6
    rw [show oidX zs = wrX 6 (oidB zs) from if_pos c1, c1]
    generalize wrX 6 (oidB zs) = x3 at *
    generalize oidB zs = x4 at *
    clear c1 p1 p2 p3 p4 hlz hbs w3 HOB
    go_wp2_with fail
    refine (C5.out W4).mono ?_
    rintro e W5 ⟨rfl, bk⟩
    replace HI := Lib.hid (HI.out.step bk)
    replace hb := hb.trans (bk.mono hb.size)
    clear bk
    go_wp2_with fail
    refine (C6.out W5).mono ?_
    rintro e W6 ⟨⟨a, ca, rfl, hIa⟩, bk⟩
    replace HI := Lib.hid (HI.out.step bk)
    replace hb := hb.trans (bk.mono hb.size)
    clear bk
    have HIa := Lib.hid hIa
    clear hIa
    go_wp2_with fail
    refine (nums_same a ao ln ca cp zs W6 HLL.out (by omega) HIa.out HI.out).mono ?_
    rintro e W7 ⟨rfl, bk⟩
    replace HI := Lib.hid (HI.out.step bk)
    replace HIa := Lib.hid (HIa.out.step bk)
    replace hb := hb.trans (bk.mono hb.size)
    clear bk
    clear C1 C2 C3 C4 C5 C6
    go_wp2_with fail
    refine (C7.out W7).mono ?_
    rintro e W8 ⟨rfl, bk⟩
    replace HI := Lib.hid (HI.out.step bk)
    replace HIa := Lib.hid (HIa.out.step bk)
    replace hb := hb.trans (bk.mono hb.size)
    clear bk
    by_cases c2 : riErr s = 0
    · have t2 : (riErr s == 0) = true := by simp; exact c2
      have HBI := Lib.hid (back_int s c2)
      obtain ⟨b0, b1⟩ := ri_range s
      have C8 := Lib.hid (fun W => HC.out.int (riV s) W b0 b1)
      rw [HBI.out] at C8
      have w2 := wr_small 2 s
      obtain ⟨p1, p2, p3, p4⟩ := rd_wr0 2 s (by have := int_wr (riV s); rwa [HBI.out] at this)
      have C9 := Lib.hid (fun W => HC.out.rd (wrX 2 s) W (by omega))
      rw [p1, p2, p3, p4] at C9
      generalize wrX 2 s = x7 at *
      generalize riV s = m at *
      generalize riErr s = q7 at *
      clear c2 p1 p2 p3 p4 b0 b1 HBI w2
      go_wp2_with fail
      refine (C8.out W8).mono ?_
      rintro e W9 ⟨rfl, bk⟩
      replace HI := Lib.hid (HI.out.step bk)
      replace HIa := Lib.hid (HIa.out.step bk)
      replace hb := hb.trans (bk.mono hb.size)
      clear bk
      go_wp2_with fail
      refine (C9.out W9).mono ?_
      rintro e W10 ⟨rfl, bk⟩
      replace HI := Lib.hid (HI.out.step bk)
      replace HIa := Lib.hid (HIa.out.step bk)
      replace hb := hb.trans (bk.mono hb.size)
      clear bk
      go_wp2_with fail
      clear C7 C8 C9
      have hro := ro_len s
      by_cases c3 : roErr s = 0
      · obtain ⟨bl, bz⟩ := ro_bounds s c3
        rw [c3] at C10
        have HBO := Lib.hid (back_oid s c3)
        have HBZ := Lib.hid bz
        obtain ⟨nv, hnv⟩ : ∃ nv, (roV s).length = nv := ⟨_, rfl⟩
        rw [hnv] at C10 bl hro
        have HNV := Lib.hid hnv
        clear bz c3 hnv
        have k1 : (1 : Int) < (nv : Int) := by omega
        have k1n : 1 < nv := by omega
        refine (C10.out W10).mono ?_
        rintro e W12 ⟨⟨u, cu, rfl, hIu, hcu⟩, bk⟩
        replace HI := Lib.hid (HI.out.step bk)
        replace HIa := Lib.hid (HIa.out.step bk)
        replace hb := hb.trans (bk.mono hb.size)
        clear bk
        have HIu := Lib.hid hIu
        clear hIu
        obtain ⟨gu, ou, rfl, cu1⟩ := HIu.out 1 (by rw [HNV.out]; omega)
        generalize hy : (roV s).getD 1 0 = y at cu1
        by_cases c4 : y ≤ 1000000
        · have t4 : decide (y ≤ 1000000) = true := by simp; omega
          obtain ⟨g1, g2⟩ := HBO.out (by rw [hy]; exact c4)
          have C11 := Lib.hid (fun W hI => HC.out.oid (some ⟨gu, ou, none⟩) nv cu (roV s) W HNV.out (by omega) hcu HBZ.out hI)
          rw [show oidX (roV s) = wrX 6 (oidB (roV s)) from if_pos g1, g1, g2] at C11
          have w6 := wr_small 6 s
          obtain ⟨p1, p2, p3, p4⟩ := rd_wr0 6 s (by have := oid_wr (roV s) (by rw [HNV.out]; exact hro); rwa [g2] at this)
          have C12 := Lib.hid (fun W => HC.out.rd (wrX 6 s) W (by omega))
          rw [p1, p2, p3, p4] at C12
          generalize wrX 6 s = x6 at *
          clear hy c4 g1 g2 p1 p2 p3 p4 HBO HBZ w6 HC
          go_wp2_with fail
          refine (C11.out W12 HIu.out).mono ?_
          rintro e W13 ⟨rfl, bk⟩
          replace HI := Lib.hid (HI.out.step bk)
          replace HIa := Lib.hid (HIa.out.step bk)
          replace HIu := Lib.hid (HIu.out.step bk)
          replace hb := hb.trans (bk.mono hb.size)
          clear bk
          go_wp2_with fail
          clear cu1
          refine (C12.out W13).mono ?_
          rintro e W14 ⟨rfl, bk⟩
          replace HI := Lib.hid (HI.out.step bk)
          replace HIa := Lib.hid (HIa.out.step bk)
          replace HIu := Lib.hid (HIu.out.step bk)
          replace hb := hb.trans (bk.mono hb.size)
          clear bk
          go_wp2_with fail
          refine (HA.out W14).mono ?_
          rintro e W15 ⟨rfl, bk⟩
          replace HI := Lib.hid (HI.out.step bk)
          replace HIa := Lib.hid (HIa.out.step bk)
          replace HIu := Lib.hid (HIu.out.step bk)
          replace hb := hb.trans (bk.mono hb.size)
          clear bk
          go_wp2_with fail
          go_ret
          exact ⟨rfl, hb⟩
        · have t4 : decide (y ≤ 1000000) = false := by simp; omega
          clear hy c4 HBO HBZ HC
          go_wp2_with fail
          clear cu1
          refine (HA.out W12).mono ?_
          rintro e W13 ⟨rfl, bk⟩
          replace HI := Lib.hid (HI.out.step bk)
          replace HIa := Lib.hid (HIa.out.step bk)
          replace HIu := Lib.hid (HIu.out.step bk)
          replace hb := hb.trans (bk.mono hb.size)
          clear bk
          go_wp2_with fail
          go_ret
          exact ⟨rfl, hb⟩
      · have t3 : (roErr s == 0) = false := by simp; exact c3
        generalize hnv : (roV s).length = nv at C10
        generalize roErr s = r at C10 t3
        have HNV := Lib.hid hnv
        clear hnv c3 HC
        refine (C10.out W10).mono ?_
        rintro e W12 ⟨⟨u, cu, rfl, hIu, hcu⟩, bk⟩
        replace HI := Lib.hid (HI.out.step bk)
        replace HIa := Lib.hid (HIa.out.step bk)
        replace hb := hb.trans (bk.mono hb.size)
        clear bk
        have HIu := Lib.hid hIu
        clear hIu
        go_wp2_with fail
        clear hcu
        refine (HA.out W12).mono ?_
        rintro e W13 ⟨rfl, bk⟩
        replace HI := Lib.hid (HI.out.step bk)
        replace HIa := Lib.hid (HIa.out.step bk)
        replace HIu := Lib.hid (HIu.out.step bk)
        replace hb := hb.trans (bk.mono hb.size)
        clear bk
        go_wp2_with fail
        go_ret
        exact ⟨rfl, hb⟩
    · have t2 : (riErr s == 0) = false := by simp; exact c2
      generalize riV s = m at *
      generalize riErr s = q7 at *
      clear c2 C7
      go_wp2_with fail
      have hro := ro_len s
      by_cases c3 : roErr s = 0
      · obtain ⟨bl, bz⟩ := ro_bounds s c3
        rw [c3] at C10
        have HBO := Lib.hid (back_oid s c3)
        have HBZ := Lib.hid bz
        obtain ⟨nv, hnv⟩ : ∃ nv, (roV s).length = nv := ⟨_, rfl⟩
        rw [hnv] at C10 bl hro
        have HNV := Lib.hid hnv
        clear bz c3 hnv
        have k1 : (1 : Int) < (nv : Int) := by omega
        have k1n : 1 < nv := by omega
        refine (C10.out W8).mono ?_
        rintro e W9 ⟨⟨u, cu, rfl, hIu, hcu⟩, bk⟩
        replace HI := Lib.hid (HI.out.step bk)
        replace HIa := Lib.hid (HIa.out.step bk)
        replace hb := hb.trans (bk.mono hb.size)
        clear bk
        have HIu := Lib.hid hIu
        clear hIu
        obtain ⟨gu, ou, rfl, cu1⟩ := HIu.out 1 (by rw [HNV.out]; omega)
        generalize hy : (roV s).getD 1 0 = y at cu1
        by_cases c4 : y ≤ 1000000
        · have t4 : decide (y ≤ 1000000) = true := by simp; omega
          obtain ⟨g1, g2⟩ := HBO.out (by rw [hy]; exact c4)
          have C11 := Lib.hid (fun W hI => HC.out.oid (some ⟨gu, ou, none⟩) nv cu (roV s) W HNV.out (by omega) hcu HBZ.out hI)
          rw [show oidX (roV s) = wrX 6 (oidB (roV s)) from if_pos g1, g1, g2] at C11
          have w6 := wr_small 6 s
          obtain ⟨p1, p2, p3, p4⟩ := rd_wr0 6 s (by have := oid_wr (roV s) (by rw [HNV.out]; exact hro); rwa [g2] at this)
          have C12 := Lib.hid (fun W => HC.out.rd (wrX 6 s) W (by omega))
          rw [p1, p2, p3, p4] at C12
          generalize wrX 6 s = x6 at *
          clear hy c4 g1 g2 p1 p2 p3 p4 HBO HBZ w6 HC
          go_wp2_with fail
          refine (C11.out W9 HIu.out).mono ?_
          rintro e W10 ⟨rfl, bk⟩
          replace HI := Lib.hid (HI.out.step bk)
          replace HIa := Lib.hid (HIa.out.step bk)
          replace HIu := Lib.hid (HIu.out.step bk)
          replace hb := hb.trans (bk.mono hb.size)
          clear bk
          go_wp2_with fail
          clear cu1
          refine (C12.out W10).mono ?_
          rintro e W11 ⟨rfl, bk⟩
          replace HI := Lib.hid (HI.out.step bk)
          replace HIa := Lib.hid (HIa.out.step bk)
          replace HIu := Lib.hid (HIu.out.step bk)
          replace hb := hb.trans (bk.mono hb.size)
          clear bk
          go_wp2_with fail
          refine (HA.out W11).mono ?_
          rintro e W12 ⟨rfl, bk⟩
          replace HI := Lib.hid (HI.out.step bk)
          replace HIa := Lib.hid (HIa.out.step bk)
          replace HIu := Lib.hid (HIu.out.step bk)
          replace hb := hb.trans (bk.mono hb.size)
          clear bk
          go_wp2_with fail
          go_ret
          exact ⟨rfl, hb⟩
        · have t4 : decide (y ≤ 1000000) = false := by simp; omega
          clear hy c4 HBO HBZ HC
          go_wp2_with fail
          clear cu1
          refine (HA.out W9).mono ?_
          rintro e W10 ⟨rfl, bk⟩
          replace HI := Lib.hid (HI.out.step bk)
          replace HIa := Lib.hid (HIa.out.step bk)
          replace HIu := Lib.hid (HIu.out.step bk)
          replace hb := hb.trans (bk.mono hb.size)
          clear bk
          go_wp2_with fail
          go_ret
          exact ⟨rfl, hb⟩
      · have t3 : (roErr s == 0) = false := by simp; exact c3
        generalize hnv : (roV s).length = nv at C10
        generalize roErr s = r at C10 t3
        have HNV := Lib.hid hnv
        clear hnv c3 HC
        refine (C10.out W8).mono ?_
        rintro e W9 ⟨⟨u, cu, rfl, hIu, hcu⟩, bk⟩
        replace HI := Lib.hid (HI.out.step bk)
        replace HIa := Lib.hid (HIa.out.step bk)
        replace hb := hb.trans (bk.mono hb.size)
        clear bk
        have HIu := Lib.hid hIu
        clear hIu
        go_wp2_with fail
        clear hcu
        refine (HA.out W9).mono ?_
        rintro e W10 ⟨rfl, bk⟩
        replace HI := Lib.hid (HI.out.step bk)
        replace HIa := Lib.hid (HIa.out.step bk)
        replace HIu := Lib.hid (HIu.out.step bk)
        replace hb := hb.trans (bk.mono hb.size)
        clear bk
        go_wp2_with fail
        go_ret
        exact ⟨rfl, hb⟩
  · have t1 : (oidErr zs == 0) = false := by simp; exact c1
    generalize oidX zs = x3 at *
    generalize oidErr zs = q3 at *
    clear c1 C1 C2 C3 C4
    go_wp2_with fail
    refine (C7.out W4).mono ?_
    rintro e W5 ⟨rfl, bk⟩
    replace HI := Lib.hid (HI.out.step bk)
    replace hb := hb.trans (bk.mono hb.size)
    clear bk
    by_cases c2 : riErr s = 0
    · have t2 : (riErr s == 0) = true := by simp; exact c2
      have HBI := Lib.hid (back_int s c2)
      obtain ⟨b0, b1⟩ := ri_range s
      have C8 := Lib.hid (fun W => HC.out.int (riV s) W b0 b1)
      rw [HBI.out] at C8
      have w2 := wr_small 2 s
      obtain ⟨p1, p2, p3, p4⟩ := rd_wr0 2 s (by have := int_wr (riV s); rwa [HBI.out] at this)
      have C9 := Lib.hid (fun W => HC.out.rd (wrX 2 s) W (by omega))
      rw [p1, p2, p3, p4] at C9
      generalize wrX 2 s = x7 at *
      generalize riV s = m at *
      generalize riErr s = q7 at *
      clear c2 p1 p2 p3 p4 b0 b1 HBI w2
      go_wp2_with fail
      refine (C8.out W5).mono ?_
      rintro e W6 ⟨rfl, bk⟩
      replace HI := Lib.hid (HI.out.step bk)
      replace hb := hb.trans (bk.mono hb.size)
      clear bk
      go_wp2_with fail
      refine (C9.out W6).mono ?_
      rintro e W7 ⟨rfl, bk⟩
      replace HI := Lib.hid (HI.out.step bk)
      replace hb := hb.trans (bk.mono hb.size)
      clear bk
      go_wp2_with fail
      clear C7 C8 C9
      have hro := ro_len s
      by_cases c3 : roErr s = 0
      · obtain ⟨bl, bz⟩ := ro_bounds s c3
        rw [c3] at C10
        have HBO := Lib.hid (back_oid s c3)
        have HBZ := Lib.hid bz
        obtain ⟨nv, hnv⟩ : ∃ nv, (roV s).length = nv := ⟨_, rfl⟩
        rw [hnv] at C10 bl hro
        have HNV := Lib.hid hnv
        clear bz c3 hnv
        have k1 : (1 : Int) < (nv : Int) := by omega
        have k1n : 1 < nv := by omega
        refine (C10.out W7).mono ?_
        rintro e W9 ⟨⟨u, cu, rfl, hIu, hcu⟩, bk⟩
        replace HI := Lib.hid (HI.out.step bk)
        replace hb := hb.trans (bk.mono hb.size)
        clear bk
        have HIu := Lib.hid hIu
        clear hIu
        obtain ⟨gu, ou, rfl, cu1⟩ := HIu.out 1 (by rw [HNV.out]; omega)
        generalize hy : (roV s).getD 1 0 = y at cu1
        by_cases c4 : y ≤ 1000000
        · have t4 : decide (y ≤ 1000000) = true := by simp; omega
          obtain ⟨g1, g2⟩ := HBO.out (by rw [hy]; exact c4)
          have C11 := Lib.hid (fun W hI => HC.out.oid (some ⟨gu, ou, none⟩) nv cu (roV s) W HNV.out (by omega) hcu HBZ.out hI)
          rw [show oidX (roV s) = wrX 6 (oidB (roV s)) from if_pos g1, g1, g2] at C11
          have w6 := wr_small 6 s
          obtain ⟨p1, p2, p3, p4⟩ := rd_wr0 6 s (by have := oid_wr (roV s) (by rw [HNV.out]; exact hro); rwa [g2] at this)
          have C12 := Lib.hid (fun W => HC.out.rd (wrX 6 s) W (by omega))
          rw [p1, p2, p3, p4] at C12
          generalize wrX 6 s = x6 at *
          clear hy c4 g1 g2 p1 p2 p3 p4 HBO HBZ w6 HC
          go_wp2_with fail
          refine (C11.out W9 HIu.out).mono ?_
          rintro e W10 ⟨rfl, bk⟩
          replace HI := Lib.hid (HI.out.step bk)
          replace HIu := Lib.hid (HIu.out.step bk)
          replace hb := hb.trans (bk.mono hb.size)
          clear bk
          go_wp2_with fail
          clear cu1
          refine (C12.out W10).mono ?_
          rintro e W11 ⟨rfl, bk⟩
          replace HI := Lib.hid (HI.out.step bk)
          replace HIu := Lib.hid (HIu.out.step bk)
          replace hb := hb.trans (bk.mono hb.size)
          clear bk
          go_wp2_with fail
          refine (HA.out W11).mono ?_
          rintro e W12 ⟨rfl, bk⟩
          replace HI := Lib.hid (HI.out.step bk)
          replace HIu := Lib.hid (HIu.out.step bk)
          replace hb := hb.trans (bk.mono hb.size)
          clear bk
          go_wp2_with fail
          go_ret
          exact ⟨rfl, hb⟩
        · have t4 : decide (y ≤ 1000000) = false := by simp; omega
          clear hy c4 HBO HBZ HC
          go_wp2_with fail
          clear cu1
          refine (HA.out W9).mono ?_
          rintro e W10 ⟨rfl, bk⟩
          replace HI := Lib.hid (HI.out.step bk)
          replace HIu := Lib.hid (HIu.out.step bk)
          replace hb := hb.trans (bk.mono hb.size)
          clear bk
          go_wp2_with fail
          go_ret
          exact ⟨rfl, hb⟩
      · have t3 : (roErr s == 0) = false := by simp; exact c3
        generalize hnv : (roV s).length = nv at C10
        generalize roErr s = r at C10 t3
        have HNV := Lib.hid hnv
        clear hnv c3 HC
        refine (C10.out W7).mono ?_
        rintro e W9 ⟨⟨u, cu, rfl, hIu, hcu⟩, bk⟩
        replace HI := Lib.hid (HI.out.step bk)
        replace hb := hb.trans (bk.mono hb.size)
        clear bk
        have HIu := Lib.hid hIu
        clear hIu
        go_wp2_with fail
        clear hcu
        refine (HA.out W9).mono ?_
        rintro e W10 ⟨rfl, bk⟩
        replace HI := Lib.hid (HI.out.step bk)
        replace HIu := Lib.hid (HIu.out.step bk)
        replace hb := hb.trans (bk.mono hb.size)
        clear bk
        go_wp2_with fail
        go_ret
        exact ⟨rfl, hb⟩
    · have t2 : (riErr s == 0) = false := by simp; exact c2
      generalize riV s = m at *
      generalize riErr s = q7 at *
      clear c2 C7
      go_wp2_with fail
      have hro := ro_len s
      by_cases c3 : roErr s = 0
      · obtain ⟨bl, bz⟩ := ro_bounds s c3
        rw [c3] at C10
        have HBO := Lib.hid (back_oid s c3)
        have HBZ := Lib.hid bz
        obtain ⟨nv, hnv⟩ : ∃ nv, (roV s).length = nv := ⟨_, rfl⟩
        rw [hnv] at C10 bl hro
        have HNV := Lib.hid hnv
        clear bz c3 hnv
        have k1 : (1 : Int) < (nv : Int) := by omega
        have k1n : 1 < nv := by omega
        refine (C10.out W5).mono ?_
        rintro e W6 ⟨⟨u, cu, rfl, hIu, hcu⟩, bk⟩
        replace HI := Lib.hid (HI.out.step bk)
        replace hb := hb.trans (bk.mono hb.size)
        clear bk
        have HIu := Lib.hid hIu
        clear hIu
        obtain ⟨gu, ou, rfl, cu1⟩ := HIu.out 1 (by rw [HNV.out]; omega)
        generalize hy : (roV s).getD 1 0 = y at cu1
        by_cases c4 : y ≤ 1000000
        · have t4 : decide (y ≤ 1000000) = true := by simp; omega
          obtain ⟨g1, g2⟩ := HBO.out (by rw [hy]; exact c4)
          have C11 := Lib.hid (fun W hI => HC.out.oid (some ⟨gu, ou, none⟩) nv cu (roV s) W HNV.out (by omega) hcu HBZ.out hI)
          rw [show oidX (roV s) = wrX 6 (oidB (roV s)) from if_pos g1, g1, g2] at C11
          have w6 := wr_small 6 s
          obtain ⟨p1, p2, p3, p4⟩ := rd_wr0 6 s (by have := oid_wr (roV s) (by rw [HNV.out]; exact hro); rwa [g2] at this)
          have C12 := Lib.hid (fun W => HC.out.rd (wrX 6 s) W (by omega))
          rw [p1, p2, p3, p4] at C12
          generalize wrX 6 s = x6 at *
          clear hy c4 g1 g2 p1 p2 p3 p4 HBO HBZ w6 HC
          go_wp2_with fail
          refine (C11.out W6 HIu.out).mono ?_
          rintro e W7 ⟨rfl, bk⟩
          replace HI := Lib.hid (HI.out.step bk)
          replace HIu := Lib.hid (HIu.out.step bk)
          replace hb := hb.trans (bk.mono hb.size)
          clear bk
          go_wp2_with fail
          clear cu1
          refine (C12.out W7).mono ?_
          rintro e W8 ⟨rfl, bk⟩
          replace HI := Lib.hid (HI.out.step bk)
          replace HIu := Lib.hid (HIu.out.step bk)
          replace hb := hb.trans (bk.mono hb.size)
          clear bk
          go_wp2_with fail
          refine (HA.out W8).mono ?_
          rintro e W9 ⟨rfl, bk⟩
          replace HI := Lib.hid (HI.out.step bk)
          replace HIu := Lib.hid (HIu.out.step bk)
          replace hb := hb.trans (bk.mono hb.size)
          clear bk
          go_wp2_with fail
          go_ret
          exact ⟨rfl, hb⟩
        · have t4 : decide (y ≤ 1000000) = false := by simp; omega
          clear hy c4 HBO HBZ HC
          go_wp2_with fail
          clear cu1
          refine (HA.out W6).mono ?_
          rintro e W7 ⟨rfl, bk⟩
          replace HI := Lib.hid (HI.out.step bk)
          replace HIu := Lib.hid (HIu.out.step bk)
          replace hb := hb.trans (bk.mono hb.size)
          clear bk
          go_wp2_with fail
          go_ret
          exact ⟨rfl, hb⟩
      · have t3 : (roErr s == 0) = false := by simp; exact c3
        generalize hnv : (roV s).length = nv at C10
        generalize roErr s = r at C10 t3
        have HNV := Lib.hid hnv
        clear hnv c3 HC
        refine (C10.out W5).mono ?_
        rintro e W6 ⟨⟨u, cu, rfl, hIu, hcu⟩, bk⟩
        replace HI := Lib.hid (HI.out.step bk)
        replace hb := hb.trans (bk.mono hb.size)
        clear bk
        have HIu := Lib.hid hIu
        clear hIu
        go_wp2_with fail
        clear hcu
        refine (HA.out W6).mono ?_
        rintro e W7 ⟨rfl, bk⟩
        replace HI := Lib.hid (HI.out.step bk)
        replace HIu := Lib.hid (HIu.out.step bk)
        replace hb := hb.trans (bk.mono hb.size)
        clear bk
        go_wp2_with fail
        go_ret
        exact ⟨rfl, hb⟩
end Go.Proofs.Ytimokmhgpigliaa
