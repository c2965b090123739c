/- A name of numbers as a thing: the reference's Oid. -/
import Derived.Test.YtimokmhgpigliaaDrOid
namespace Go.Proofs.Ytimokmhgpigliaa
open Go.RowKit Go.Sort
set_option maxRecDepth 100000
set_option linter.unusedSimpArgs false
set_option linter.unusedVariables false

theorem rgroupZ_any (z : Int) (w : World) (h0 : 0 ≤ z) (h1 : z ≤ 9223372036854775807) :
    Calls Try.prog 43 #[.int .i64 z] w fun e w' => e = .returned (.string ⟨(grL z.toNat).toArray⟩) ∧ Below w.heap.size w w' := by
  have h := rgroup_any z.toNat w (by omega)
  rwa [show ((z.toNat : Nat) : Int) = z by omega] at h
theorem any_at (zs : List Int) (p : Int → Bool) (k : Nat) (hk : k < zs.length) (h : p (zs.getD k 0) = true) : zs.any p = true := by
  rw [List.any_eq_true]
  refine ⟨zs[k], List.getElem_mem hk, ?_⟩
  rwa [List.getD_eq_getElem?_getD, List.getElem?_eq_getElem hk] at h
theorem any_none (zs : List Int) (p : Int → Bool) (h : ∀ k, k < zs.length → p (zs.getD k 0) = false) : ¬ zs.any p = true := by
  rw [List.any_eq_true]
  rintro ⟨x, hx, hp⟩
  obtain ⟨k, hk, rfl⟩ := List.mem_iff_getElem.1 hx
  have := h k hk
  rw [List.getD_eq_getElem?_getD, List.getElem?_eq_getElem hk] at this
  rw [Option.getD_some] at this
  rw [this] at hp
  cases hp
abbrev oidBad (zs : List Int) : Prop := 2 < zs.getD 0 0 ∨ (zs.getD 0 0 < 2 ∧ 39 < zs.getD 1 0) ∨ 1000000 < zs.getD 1 0
theorem oid_few (zs : List Int) (h : zs.length < 2) : oidErr zs = 1 := if_pos h
theorem oid_neg (zs : List Int) (h2 : ¬ zs.length < 2) (k : Nat) (hk : k < zs.length) (h : zs.getD k 0 < 0) : oidErr zs = 1 := by
  rw [oidErr, if_neg h2, if_pos (any_at zs _ k hk (decide_eq_true h))]
theorem oid_arg (zs : List Int) (h2 : ¬ zs.length < 2) (h : oidBad zs) : oidErr zs = 1 := by
  rw [oidErr, if_neg h2]
  by_cases q : (zs.any fun z => decide (z < 0)) = true
  · rw [if_pos q]
  · rw [if_neg q, if_pos h]
theorem oid_many (zs : List Int) (h2 : ¬ zs.length < 2) (hn : ∀ k, k < zs.length → 0 ≤ zs.getD k 0) (hb : ¬ oidBad zs) (h : 20 < zs.length) : oidErr zs = 13 := by
  rw [oidErr, if_neg h2, if_neg (any_none zs _ fun k hk => decide_eq_false (by have := hn k hk; omega)), if_neg hb, if_pos h]
theorem drop2_at (zs : List Int) (j : Nat) : (zs.drop 2).getD j 0 = zs.getD (2 + j) 0 := by
  rw [List.getD_eq_getElem?_getD, List.getD_eq_getElem?_getD, List.getElem?_drop]
theorem oid_big (zs : List Int) (h2 : ¬ zs.length < 2) (hn : ∀ k, k < zs.length → 0 ≤ zs.getD k 0) (hb : ¬ oidBad zs) (h : ¬ 20 < zs.length) (k : Nat) (h2k : 2 ≤ k) (hk : k < zs.length) (hz : 268435455 < zs.getD k 0) : oidErr zs = 13 := by
  rw [oidErr, if_neg h2, if_neg (any_none zs _ fun k hk => decide_eq_false (by have := hn k hk; omega)), if_neg hb, if_neg h, if_pos]
  refine any_at (zs.drop 2) _ (k - 2) (by rw [List.length_drop]; omega) ?_
  rw [drop2_at, show 2 + (k - 2) = k by omega]
  exact decide_eq_true hz
theorem oid_ok (zs : List Int) (h2 : ¬ zs.length < 2) (hn : ∀ k, k < zs.length → 0 ≤ zs.getD k 0) (hb : ¬ oidBad zs) (h : ¬ 20 < zs.length) (hz : ∀ k, 2 ≤ k → k < zs.length → zs.getD k 0 ≤ 268435455) : oidErr zs = 0 := by
  rw [oidErr, if_neg h2, if_neg (any_none zs _ fun k hk => decide_eq_false (by have := hn k hk; omega)), if_neg hb, if_neg h, if_neg]
  refine any_none (zs.drop 2) _ fun j hj => ?_
  rw [List.length_drop] at hj
  have := hz (2 + j) (by omega) (by omega)
  rw [drop2_at]
  exact decide_eq_false (by omega)
theorem oid_bad (zs : List Int) (e : Int) (h : oidErr zs = e) (he : e ≠ 0) : oidX zs = ⟨#[]⟩ ∧ oidErr zs = e := ⟨if_neg (by rw [h]; exact he), h⟩
/-- The bytes of a name's first so many numbers. -/
def oidP (zs : List Int) (k : Nat) : ByteArray := ⟨(grL (40 * zs.getD 0 0 + zs.getD 1 0).toNat ++ restL ((zs.drop 2).take (k - 2))).toArray⟩
def grB (z : Int) : ByteArray := ⟨(grL z.toNat).toArray⟩
theorem oidP_two (zs : List Int) : oidP zs 2 = grB (40 * zs.getD 0 0 + zs.getD 1 0) := by
  rw [oidP, grB, Nat.sub_self, List.take_zero, show restL [] = [] from rfl, List.append_nil]
theorem oidP_succ (zs : List Int) (k : Nat) (h2 : 2 ≤ k) (hk : k < zs.length) : oidP zs (k + 1) = oidP zs k ++ grB (zs.getD k 0) := by
  apply ByteArray.ext
  apply Array.toList_inj.1
  have hk2 : k - 2 < (zs.drop 2).length := by rw [List.length_drop]; omega
  have e : (zs.drop 2)[k - 2] = zs.getD k 0 := by
    rw [List.getElem_drop, List.getD_eq_getElem?_getD, List.getElem?_eq_getElem hk]
    simp only [show 2 + (k - 2) = k by omega]
    rfl
  rw [ByteArray.data_append, Array.toList_append]
  show grL _ ++ restL ((zs.drop 2).take (k + 1 - 2)) = (grL _ ++ restL ((zs.drop 2).take (k - 2))) ++ grL (zs.getD k 0).toNat
  rw [show k + 1 - 2 = (k - 2) + 1 by omega, List.take_succ_eq_append_getElem hk2, e, restL, List.flatMap_append, List.flatMap_cons, List.flatMap_nil, List.append_nil, List.append_assoc]
  rfl
theorem oidP_end (zs : List Int) : oidP zs zs.length = oidB zs := by
  rw [oidP, oidB, oidL, List.take_of_length_le (by rw [List.length_drop]; omega)]
theorem grB_size (z : Int) : (grB z).size ≤ 10 := (grL_length z.toNat).2
theorem oidP_size (zs : List Int) (k : Nat) (h : k ≤ 20) : (oidP zs k).size ≤ 210 := by
  have a := restL_length ((zs.drop 2).take (k - 2)); have b := (grL_length (40 * zs.getD 0 0 + zs.getD 1 0).toNat).2
  rw [List.length_take] at a
  show (grL _ ++ restL _).length ≤ 210
  rw [List.length_append]
  omega
set_option maxHeartbeats 16000000 in
theorem rOid_any (ao : Option Addr) (n c : Nat) (zs : List Int) (w : World) (hn : zs.length = n) (hm : n ≤ 1000000) (hz : ∀ k, -9223372036854775808 ≤ zs.getD k 0 ∧ zs.getD k 0 ≤ 9223372036854775807) (hi : IntsAt w ao zs) :
    Calls Try.prog 26 #[.slice ao n c] w fun e w' => e = .returned (.tuple #[.string (oidX zs), .int .i64 (oidErr zs)]) ∧ Below w.heap.size w w' := by
  by_cases h2 : n < 2
  · have d2 : decide ((n : Int) < 2) = true := by simp; omega
    have HR := Lib.hid (oid_bad zs 1 (oid_few zs (by omega)) (by decide))
    have hb := Below.refl w.heap.size w
    go_enter Try.func26, Try.ntmps26
    go_wp2_with fail
    go_ret2
    exact ⟨by rw [HR.out.1, HR.out.2]; rfl, hb⟩
  have d2 : decide ((n : Int) < 2) = false := by simp; omega
  have HN := Lib.hid hn
  have HZ := Lib.hid hz
  have HI := Lib.hid hi
  have hb := Below.refl w.heap.size w
  obtain ⟨g, off, rfl, c0⟩ := hi 0 (by omega)
  obtain ⟨g1, off1, eg, c1⟩ := hi 1 (by omega)
  cases eg
  rw [Nat.add_zero] at c0
  have hp0 : (0 : Int) < (n : Int) := by omega
  have hp1 : (1 : Int) < (n : Int) := by omega
  have hq0 : 0 < n := by omega
  have hq1 : 1 < n := by omega
  clear hz hi
  go_enter Try.func26, Try.ntmps26
  go_wp2_with fail
  go_loopw [4] (fun iv wr => ∃ k : Nat, k ≤ n ∧ iv = .int .i64 (k : Int) ∧ (∀ j, j < k → 0 ≤ zs.getD j 0) ∧ w = wr) (fun iv _ => n - (intOf iv).toNat)
  case atStart => exact ⟨0, by omega, rfl, fun j hj => by omega, rfl⟩
  case round =>
    obtain ⟨k, hkn, rfl, hpre, rfl⟩ := hrel
    by_cases hlt : k < n
    · have hd : decide ((k : Int) < (n : Int)) = true := by simp; omega
      have hkn' : (k : Int) < (n : Int) := by omega
      obtain ⟨g', off', eg, cz⟩ := HI.out k (by rw [HN.out]; exact hlt)
      cases eg
      have HPRE := Lib.hid hpre
      clear hpre c0 c1
      generalize hzz : zs.getD k 0 = z at cz
      by_cases hneg : z < 0
      · have dz : decide (z < 0) = true := by simp; omega
        have HR := Lib.hid (oid_bad zs 1 (oid_neg zs (by omega) k (by omega) (by rw [hzz]; exact hneg)) (by decide))
        clear hzz
        go_wp2_with fail
        go_ret2
        exact ⟨by rw [HR.out.1, HR.out.2]; rfl, hb⟩
      · have dz : decide (z < 0) = false := by simp; omega
        have HPR2 : Hid (∀ j, j < k + 1 → 0 ≤ zs.getD j 0) := Lib.hid (fun j h => by
          by_cases c : j < k
          · exact HPRE.out j c
          · obtain rfl : j = k := by omega
            rw [hzz]; omega)
        clear hzz HPRE
        go_wp2_with fail
        go_roundw
        case rel => exact ⟨k + 1, by omega, by go_num, HPR2.out, by first | rfl | trivial⟩
        case measure => simp [intOf]; omega
    · have hd : decide ((k : Int) < (n : Int)) = false := by simp; omega
      obtain rfl : n = k := by omega
      have HNN : Hid (∀ j, j < zs.length → 0 ≤ zs.getD j 0) := Lib.hid (fun j h => hpre j (by rw [← HN.out]; exact h))
      have hx0 := hpre 0 (by omega)
      have hy0 := hpre 1 (by omega)
      have hx1 := HZ.out 0
      have hy1 := HZ.out 1
      clear hpre
      generalize hx : zs.getD 0 0 = x at c0 hx0 hx1
      generalize hy : zs.getD 1 0 = y at c1 hy0 hy1
      by_cases ca : 2 < x
      · have t0 : decide (2 < x) = true := (by first | (simp; done) | (simp; omega))
        have HR := Lib.hid (oid_bad zs 1 (oid_arg zs (by omega) (by rw [oidBad, hx, hy]; omega)) (by decide))
        clear hx hy
        go_wp2_with fail
        go_ret2
        exact ⟨by rw [HR.out.1, HR.out.2]; rfl, hb⟩
      by_cases cb : x < 2
      · by_cases cc : 39 < y
        · have t0 : decide (2 < x) = false := (by first | (simp; done) | (simp; omega)); have t1 : decide (x < 2) = true := (by first | (simp; done) | (simp; omega)); have t2 : decide (39 < y) = true := (by first | (simp; done) | (simp; omega))
          have HR := Lib.hid (oid_bad zs 1 (oid_arg zs (by omega) (by rw [oidBad, hx, hy]; omega)) (by decide))
          clear hx hy
          go_wp2_with fail
          go_ret2
          exact ⟨by rw [HR.out.1, HR.out.2]; rfl, hb⟩
        · have t0 : decide (2 < x) = false := (by first | (simp; done) | (simp; omega)); have t1 : decide (x < 2) = true := (by first | (simp; done) | (simp; omega)); have t2 : decide (39 < y) = false := (by first | (simp; done) | (simp; omega)); have t3 : decide (1000000 < y) = false := (by first | (simp; done) | (simp; omega))
          have hbad : ¬ oidBad zs := by rw [oidBad, hx, hy]; omega
          by_cases h20 : 20 < n
          · have d20 : decide ((20 : Int) < (n : Int)) = true := by simp; omega
            have HR := Lib.hid (oid_bad zs 13 (oid_many zs (by omega) HNN.out hbad (by omega)) (by decide))
            go_wp2_with fail
            go_ret2
            exact ⟨by rw [HR.out.1, HR.out.2]; rfl, hb⟩
          have d20 : decide ((20 : Int) < (n : Int)) = false := by simp; omega
          have h40 : 0 ≤ 40 * x ∧ 40 * x ≤ 80 := by omega
          have hs0 : 0 ≤ 40 * x + y ∧ 40 * x + y ≤ 1000080 := by omega
          have w40 : wrap64 (40 * x) = 40 * x := by unfold wrap64; omega
          have ws0 : wrap64 (40 * x + y) = 40 * x + y := by unfold wrap64; omega
          have u40 : IntKind.i64.wrap (40 * x) = 40 * x := by rw [IntKind.wrap_i64]; omega
          have us0 : IntKind.i64.wrap (40 * x + y) = 40 * x + y := by rw [IntKind.wrap_i64]; omega
          have CG0 := Lib.hid (fun W => rgroupZ_any (40 * x + y) W hs0.1 (by omega))
          rw [show (⟨(grL (40 * x + y).toNat).toArray⟩ : ByteArray) = oidP zs 2 by rw [oidP_two, hx, hy]; rfl] at CG0
          obtain ⟨o2, ho2⟩ : ∃ o2, oidP zs 2 = o2 := ⟨_, rfl⟩
          rw [ho2] at CG0
          have HO2 := Lib.hid ho2
          clear ho2
          go_wp2_with fail
          refine wp_region_told 9 77 [(Told.val (.slice (some ⟨g, off, none⟩) n c), [0]), (Told.val (.pointer (some ⟨g, off, none⟩)), [46]), (Told.val (.int .i64 x), [47]), (Told.val (.int .i64 (40 * x)), [48]), (Told.val (.slice (some ⟨g, off, none⟩) n c), [0]), (Told.val (.pointer (some ⟨g, off + 1, none⟩)), [50]), (Told.val (.int .i64 y), [51]), (Told.val (.int .i64 (40 * x + y)), [49, 52]), (Told.val (.string o2), [53])]
            (by kernel_rfl) (by kernel_rfl) rfl ?_ ?_
          · simp only [List.take_succ_cons, List.take_zero, toldObl, and_true]
            refine ⟨?_, ?_, ?_, ?_, ?_, ?_, ?_, ?_, ?_⟩
            · intro a w hb h
              have e0 : a.tmps.getD 0 undef = .slice (some ⟨g, off, none⟩) n c := h 0 (by simp)
              simp only [Array.getD_eq_getD_getElem?] at e0
              refine told_q ?_
              simp [go_sem, e0, sQuiet]
            · intro a w hb h
              have e0 : a.tmps.getD 46 undef = .slice (some ⟨g, off, none⟩) n c := h 46 (by simp)
              simp only [Array.getD_eq_getD_getElem?] at e0
              refine told_q ?_
              simp [go_sem, e0, sQuiet, hp0, hq0]
            · intro a w hb h
              have e0 : a.tmps.getD 47 undef = .pointer (some ⟨g, off, none⟩) := h 47 (by simp)
              simp only [Array.getD_eq_getD_getElem?] at e0
              have hc := (hb.cell (block_lt_of_cell c0)).trans c0
              refine told_q ?_
              simp [go_sem, e0, sQuiet, hc]
            · intro a w hb h
              have e0 : a.tmps.getD 48 undef = .int .i64 x := h 48 (by simp)
              simp only [Array.getD_eq_getD_getElem?] at e0
              refine told_q ?_
              simp [go_sem, e0, sQuiet, w40, u40]
            · intro a w hb h
              have e0 : a.tmps.getD 0 undef = .slice (some ⟨g, off, none⟩) n c := h 0 (by simp)
              simp only [Array.getD_eq_getD_getElem?] at e0
              refine told_q ?_
              simp [go_sem, e0, sQuiet]
            · intro a w hb h
              have e0 : a.tmps.getD 50 undef = .slice (some ⟨g, off, none⟩) n c := h 50 (by simp)
              simp only [Array.getD_eq_getD_getElem?] at e0
              refine told_q ?_
              simp [go_sem, e0, sQuiet, hp1, hq1]
            · intro a w hb h
              have e0 : a.tmps.getD 51 undef = .pointer (some ⟨g, off + 1, none⟩) := h 51 (by simp)
              simp only [Array.getD_eq_getD_getElem?] at e0
              have hc := (hb.cell (block_lt_of_cell c1)).trans c1
              refine told_q ?_
              simp [go_sem, e0, sQuiet, hc]
            · intro a w hb h
              have e0 : a.tmps.getD 49 undef = .int .i64 (40 * x) := h 49 (by simp)
              have e1 : a.tmps.getD 52 undef = .int .i64 y := h 52 (by simp)
              simp only [Array.getD_eq_getD_getElem?] at e0 e1
              refine told_q ?_
              simp [go_sem, e0, e1, sQuiet, ws0, us0]
            · intro a w hb h
              have e0 : a.tmps.getD 53 undef = .int .i64 (40 * x + y) := h 53 (by simp)
              simp only [Array.getD_eq_getD_getElem?] at e0
              refine told_q ?_
              simp [go_sem, e0, sQuiet]
              exact CG0.out _
          simp only [List.take_succ_cons, List.take_zero, List.drop_succ_cons, List.drop_zero, toldEnd, Act.put, List.setIfInBounds_toArray, List.set_cons_succ, List.set_cons_zero]
          rintro X bk v46 q46 v47 q47 v48 q48 v49 q49 v50 q50 v51 q51 v52 q52 v53 q53 v54 q54
          obtain rfl := q46.symm
          obtain rfl := q47.symm
          obtain rfl := q48.symm
          obtain rfl := q49.symm
          obtain rfl := q50.symm
          obtain rfl := q51.symm
          obtain rfl := q52.symm
          obtain rfl := q53.symm
          obtain rfl := q54.symm
          clear q46 q47 q48 q49 q50 q51 q52 q53 q54 CG0
          replace hb := hb.trans (bk.mono hb.size)
          clear bk c0 c1
          go_wp2_with fail
          go_loopw [5, 6] (fun ov iv wr => ∃ k : Nat, 2 ≤ k ∧ k ≤ n ∧ iv = .int .i64 (k : Int) ∧ ov = .string (oidP zs k) ∧ (∀ j, 2 ≤ j → j < k → zs.getD j 0 ≤ 268435455) ∧ Below w.heap.size w wr) (fun _ iv _ => n - (intOf iv).toNat)
          case atStart => exact ⟨2, by omega, by omega, rfl, by rw [HO2.out], fun j h1 h2 => by omega, hb⟩
          case round =>
            clear hb
            obtain ⟨k, h2k, hkn, rfl, rfl, hpre, hb⟩ := hrel
            have HPRE := Lib.hid hpre
            clear hpre
            by_cases hlt : k < n
            · have hd : decide ((k : Int) < (n : Int)) = true := by simp; omega
              have hkn' : (k : Int) < (n : Int) := by omega
              obtain ⟨g', off', eg, cz⟩ := (HI.out.step hb) k (by rw [HN.out]; exact hlt)
              cases eg
              have hz0 := HNN.out k (by omega)
              have hz1 := HZ.out k
              have HS := Lib.hid (oidP_succ zs k h2k (by omega))
              have hsz := oidP_size zs k (by omega)
              have HZK : Hid (zs.getD k 0 = zs.getD k 0) := Lib.hid rfl
              generalize hzz : zs.getD k 0 = z at cz hz0 hz1 HS
              by_cases hbig : 268435455 < z
              · have dz : decide (268435455 < z) = true := by simp; omega
                have HR := Lib.hid (oid_bad zs 13 (oid_big zs (by omega) HNN.out hbad (by omega) k h2k (by omega) (by rw [hzz]; exact hbig)) (by decide))
                clear HS hzz HZK
                generalize oidP zs k = ok at *
                go_wp2_with fail
                go_ret2
                exact ⟨by rw [HR.out.1, HR.out.2]; rfl, hb⟩
              · have dz : decide (268435455 < z) = false := by simp; omega
                have CG := Lib.hid (fun W => rgroupZ_any z W hz0 (by omega))
                rw [show (⟨(grL z.toNat).toArray⟩ : ByteArray) = grB z from rfl] at CG
                have hgs := grB_size z
                have HPR2 : Hid (∀ j, 2 ≤ j → j < k + 1 → zs.getD j 0 ≤ 268435455) := Lib.hid (fun j h1 h2 => by
                  by_cases c : j < k
                  · exact HPRE.out j h1 c
                  · obtain rfl : j = k := by omega
                    rw [hzz]; omega)
                obtain ⟨pk, hpk⟩ : ∃ pk, oidP zs k = pk := ⟨_, rfl⟩
                obtain ⟨gk, hgk⟩ : ∃ gk, grB z = gk := ⟨_, rfl⟩
                rw [hpk] at hsz
                rw [hgk] at CG hgs
                have HS2 : Hid (oidP zs (k + 1) = pk ++ gk) := Lib.hid (by rw [HS.out, hpk, hgk])
                rw [hpk]
                have hsum : pk.size + gk.size ≤ 9223372036854775807 := by omega
                clear HS HZK hzz hpk hgk HPRE
                go_wp2_with fail
                refine (CG.out _).mono ?_
                rintro e W1 ⟨rfl, bk⟩
                replace hb := hb.trans (bk.mono hb.size)
                clear bk CG
                go_wp2_with fail
                go_roundw
                case rel => exact ⟨k + 1, by omega, by omega, by go_num, by rw [HS2.out], HPR2.out, hb⟩
                case measure => simp [intOf]; omega
            · have hd : decide ((k : Int) < (n : Int)) = false := by simp; omega
              obtain rfl : n = k := by omega
              have hok := oid_ok zs (by omega) HNN.out hbad (by omega) (fun j h1 h2 => HPRE.out j h1 (by omega))
              have hP : oidP zs n = oidB zs := by rw [← HN.out]; exact oidP_end zs
              have hbs := oidB_size zs (by omega)
              rw [hP]
              have CW := Lib.hid (fun W => rWrite_any 6 (oidB zs) W (by decide) (by decide))
              rw [oid_wr zs (by omega)] at CW
              have HX : Hid (oidX zs = wrX 6 (oidB zs)) := Lib.hid (if_pos hok)
              have HOK := Lib.hid hok
              generalize wrX 6 (oidB zs) = xo at *
              generalize oidB zs = ob at *
              clear hok hP
              go_wp2_with fail
              refine (CW.out _).mono ?_
              rintro e W1 ⟨rfl, bk⟩
              replace hb := hb.trans (bk.mono hb.size)
              clear bk CW
              go_wp2_with fail
              go_ret2
              exact ⟨by rw [HX.out, HOK.out]; rfl, hb⟩
      by_cases cd : 1000000 < y
      · have t0 : decide (2 < x) = false := (by first | (simp; done) | (simp; omega)); have t1 : decide (x < 2) = false := (by first | (simp; done) | (simp; omega)); have t2 : decide (1000000 < y) = true := (by first | (simp; done) | (simp; omega))
        have HR := Lib.hid (oid_bad zs 1 (oid_arg zs (by omega) (by rw [oidBad, hx, hy]; omega)) (by decide))
        clear hx hy
        go_wp2_with fail
        go_ret2
        exact ⟨by rw [HR.out.1, HR.out.2]; rfl, hb⟩
      · have t0 : decide (2 < x) = false := (by first | (simp; done) | (simp; omega)); have t1 : decide (x < 2) = false := (by first | (simp; done) | (simp; omega)); have t2 : decide (1000000 < y) = false := (by first | (simp; done) | (simp; omega))
        have hbad : ¬ oidBad zs := by rw [oidBad, hx, hy]; omega
        by_cases h20 : 20 < n
        · have d20 : decide ((20 : Int) < (n : Int)) = true := by simp; omega
          have HR := Lib.hid (oid_bad zs 13 (oid_many zs (by omega) HNN.out hbad (by omega)) (by decide))
          go_wp2_with fail
          go_ret2
          exact ⟨by rw [HR.out.1, HR.out.2]; rfl, hb⟩
        have d20 : decide ((20 : Int) < (n : Int)) = false := by simp; omega
        have h40 : 0 ≤ 40 * x ∧ 40 * x ≤ 80 := by omega
        have hs0 : 0 ≤ 40 * x + y ∧ 40 * x + y ≤ 1000080 := by omega
        have w40 : wrap64 (40 * x) = 40 * x := by unfold wrap64; omega
        have ws0 : wrap64 (40 * x + y) = 40 * x + y := by unfold wrap64; omega
        have u40 : IntKind.i64.wrap (40 * x) = 40 * x := by rw [IntKind.wrap_i64]; omega
        have us0 : IntKind.i64.wrap (40 * x + y) = 40 * x + y := by rw [IntKind.wrap_i64]; omega
        have CG0 := Lib.hid (fun W => rgroupZ_any (40 * x + y) W hs0.1 (by omega))
        rw [show (⟨(grL (40 * x + y).toNat).toArray⟩ : ByteArray) = oidP zs 2 by rw [oidP_two, hx, hy]; rfl] at CG0
        obtain ⟨o2, ho2⟩ : ∃ o2, oidP zs 2 = o2 := ⟨_, rfl⟩
        rw [ho2] at CG0
        have HO2 := Lib.hid ho2
        clear ho2
        go_wp2_with fail
        refine wp_region_told 9 77 [(Told.val (.slice (some ⟨g, off, none⟩) n c), [0]), (Told.val (.pointer (some ⟨g, off, none⟩)), [46]), (Told.val (.int .i64 x), [47]), (Told.val (.int .i64 (40 * x)), [48]), (Told.val (.slice (some ⟨g, off, none⟩) n c), [0]), (Told.val (.pointer (some ⟨g, off + 1, none⟩)), [50]), (Told.val (.int .i64 y), [51]), (Told.val (.int .i64 (40 * x + y)), [49, 52]), (Told.val (.string o2), [53])]
          (by kernel_rfl) (by kernel_rfl) rfl ?_ ?_
        · simp only [List.take_succ_cons, List.take_zero, toldObl, and_true]
          refine ⟨?_, ?_, ?_, ?_, ?_, ?_, ?_, ?_, ?_⟩
          · intro a w hb h
            have e0 : a.tmps.getD 0 undef = .slice (some ⟨g, off, none⟩) n c := h 0 (by simp)
            simp only [Array.getD_eq_getD_getElem?] at e0
            refine told_q ?_
            simp [go_sem, e0, sQuiet]
          · intro a w hb h
            have e0 : a.tmps.getD 46 undef = .slice (some ⟨g, off, none⟩) n c := h 46 (by simp)
            simp only [Array.getD_eq_getD_getElem?] at e0
            refine told_q ?_
            simp [go_sem, e0, sQuiet, hp0, hq0]
          · intro a w hb h
            have e0 : a.tmps.getD 47 undef = .pointer (some ⟨g, off, none⟩) := h 47 (by simp)
            simp only [Array.getD_eq_getD_getElem?] at e0
            have hc := (hb.cell (block_lt_of_cell c0)).trans c0
            refine told_q ?_
            simp [go_sem, e0, sQuiet, hc]
          · intro a w hb h
            have e0 : a.tmps.getD 48 undef = .int .i64 x := h 48 (by simp)
            simp only [Array.getD_eq_getD_getElem?] at e0
            refine told_q ?_
            simp [go_sem, e0, sQuiet, w40, u40]
          · intro a w hb h
            have e0 : a.tmps.getD 0 undef = .slice (some ⟨g, off, none⟩) n c := h 0 (by simp)
            simp only [Array.getD_eq_getD_getElem?] at e0
            refine told_q ?_
            simp [go_sem, e0, sQuiet]
          · intro a w hb h
            have e0 : a.tmps.getD 50 undef = .slice (some ⟨g, off, none⟩) n c := h 50 (by simp)
            simp only [Array.getD_eq_getD_getElem?] at e0
            refine told_q ?_
            simp [go_sem, e0, sQuiet, hp1, hq1]
          · intro a w hb h
            have e0 : a.tmps.getD 51 undef = .pointer (some ⟨g, off + 1, none⟩) := h 51 (by simp)
            simp only [Array.getD_eq_getD_getElem?] at e0
            have hc := (hb.cell (block_lt_of_cell c1)).trans c1
            refine told_q ?_
            simp [go_sem, e0, sQuiet, hc]
          · intro a w hb h
            have e0 : a.tmps.getD 49 undef = .int .i64 (40 * x) := h 49 (by simp)
            have e1 : a.tmps.getD 52 undef = .int .i64 y := h 52 (by simp)
            simp only [Array.getD_eq_getD_getElem?] at e0 e1
            refine told_q ?_
            simp [go_sem, e0, e1, sQuiet, ws0, us0]
          · intro a w hb h
            have e0 : a.tmps.getD 53 undef = .int .i64 (40 * x + y) := h 53 (by simp)
            simp only [Array.getD_eq_getD_getElem?] at e0
            refine told_q ?_
            simp [go_sem, e0, sQuiet]
            exact CG0.out _
        simp only [List.take_succ_cons, List.take_zero, List.drop_succ_cons, List.drop_zero, toldEnd, Act.put, List.setIfInBounds_toArray, List.set_cons_succ, List.set_cons_zero]
        rintro X bk v46 q46 v47 q47 v48 q48 v49 q49 v50 q50 v51 q51 v52 q52 v53 q53 v54 q54
        obtain rfl := q46.symm
        obtain rfl := q47.symm
        obtain rfl := q48.symm
        obtain rfl := q49.symm
        obtain rfl := q50.symm
        obtain rfl := q51.symm
        obtain rfl := q52.symm
        obtain rfl := q53.symm
        obtain rfl := q54.symm
        clear q46 q47 q48 q49 q50 q51 q52 q53 q54 CG0
        replace hb := hb.trans (bk.mono hb.size)
        clear bk c0 c1
        go_wp2_with fail
        go_loopw [5, 6] (fun ov iv wr => ∃ k : Nat, 2 ≤ k ∧ k ≤ n ∧ iv = .int .i64 (k : Int) ∧ ov = .string (oidP zs k) ∧ (∀ j, 2 ≤ j → j < k → zs.getD j 0 ≤ 268435455) ∧ Below w.heap.size w wr) (fun _ iv _ => n - (intOf iv).toNat)
        case atStart => exact ⟨2, by omega, by omega, rfl, by rw [HO2.out], fun j h1 h2 => by omega, hb⟩
        case round =>
          clear hb
          obtain ⟨k, h2k, hkn, rfl, rfl, hpre, hb⟩ := hrel
          have HPRE := Lib.hid hpre
          clear hpre
          by_cases hlt : k < n
          · have hd : decide ((k : Int) < (n : Int)) = true := by simp; omega
            have hkn' : (k : Int) < (n : Int) := by omega
            obtain ⟨g', off', eg, cz⟩ := (HI.out.step hb) k (by rw [HN.out]; exact hlt)
            cases eg
            have hz0 := HNN.out k (by omega)
            have hz1 := HZ.out k
            have HS := Lib.hid (oidP_succ zs k h2k (by omega))
            have hsz := oidP_size zs k (by omega)
            have HZK : Hid (zs.getD k 0 = zs.getD k 0) := Lib.hid rfl
            generalize hzz : zs.getD k 0 = z at cz hz0 hz1 HS
            by_cases hbig : 268435455 < z
            · have dz : decide (268435455 < z) = true := by simp; omega
              have HR := Lib.hid (oid_bad zs 13 (oid_big zs (by omega) HNN.out hbad (by omega) k h2k (by omega) (by rw [hzz]; exact hbig)) (by decide))
              clear HS hzz HZK
              generalize oidP zs k = ok at *
              go_wp2_with fail
              go_ret2
              exact ⟨by rw [HR.out.1, HR.out.2]; rfl, hb⟩
            · have dz : decide (268435455 < z) = false := by simp; omega
              have CG := Lib.hid (fun W => rgroupZ_any z W hz0 (by omega))
              rw [show (⟨(grL z.toNat).toArray⟩ : ByteArray) = grB z from rfl] at CG
              have hgs := grB_size z
              have HPR2 : Hid (∀ j, 2 ≤ j → j < k + 1 → zs.getD j 0 ≤ 268435455) := Lib.hid (fun j h1 h2 => by
                by_cases c : j < k
                · exact HPRE.out j h1 c
                · obtain rfl : j = k := by omega
                  rw [hzz]; omega)
              obtain ⟨pk, hpk⟩ : ∃ pk, oidP zs k = pk := ⟨_, rfl⟩
              obtain ⟨gk, hgk⟩ : ∃ gk, grB z = gk := ⟨_, rfl⟩
              rw [hpk] at hsz
              rw [hgk] at CG hgs
              have HS2 : Hid (oidP zs (k + 1) = pk ++ gk) := Lib.hid (by rw [HS.out, hpk, hgk])
              rw [hpk]
              have hsum : pk.size + gk.size ≤ 9223372036854775807 := by omega
              clear HS HZK hzz hpk hgk HPRE
              go_wp2_with fail
              refine (CG.out _).mono ?_
              rintro e W1 ⟨rfl, bk⟩
              replace hb := hb.trans (bk.mono hb.size)
              clear bk CG
              go_wp2_with fail
              go_roundw
              case rel => exact ⟨k + 1, by omega, by omega, by go_num, by rw [HS2.out], HPR2.out, hb⟩
              case measure => simp [intOf]; omega
          · have hd : decide ((k : Int) < (n : Int)) = false := by simp; omega
            obtain rfl : n = k := by omega
            have hok := oid_ok zs (by omega) HNN.out hbad (by omega) (fun j h1 h2 => HPRE.out j h1 (by omega))
            have hP : oidP zs n = oidB zs := by rw [← HN.out]; exact oidP_end zs
            have hbs := oidB_size zs (by omega)
            rw [hP]
            have CW := Lib.hid (fun W => rWrite_any 6 (oidB zs) W (by decide) (by decide))
            rw [oid_wr zs (by omega)] at CW
            have HX : Hid (oidX zs = wrX 6 (oidB zs)) := Lib.hid (if_pos hok)
            have HOK := Lib.hid hok
            generalize wrX 6 (oidB zs) = xo at *
            generalize oidB zs = ob at *
            clear hok hP
            go_wp2_with fail
            refine (CW.out _).mono ?_
            rintro e W1 ⟨rfl, bk⟩
            replace hb := hb.trans (bk.mono hb.size)
            clear bk CW
            go_wp2_with fail
            go_ret2
            exact ⟨by rw [HX.out, HOK.out]; rfl, hb⟩
end Go.Proofs.Ytimokmhgpigliaa
