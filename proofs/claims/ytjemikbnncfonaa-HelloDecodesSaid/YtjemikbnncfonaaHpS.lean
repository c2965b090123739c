/- Package hello: suites, suiteBytes, areSuites. -/
import Derived.Test.YtjemikbnncfonaaHpE
import Derived.Test.YtjemikbnncfonaaHeR
import Derived.Test.YtjemikbnncfonaaHeS
namespace Go.Proofs.Ytjemikbnncfonaa
open Go.RowKit Go.Sort
set_option maxRecDepth 100000
set_option linter.unusedSimpArgs false
set_option linter.unusedVariables false

def strLen : Value → Nat
  | .string s => s.size
  | _ => 0
theorem hp_infoI : (Try.prog.info? 3).map (fun i => (i.zero, i.size, i.bytes)) = some (some (.int .i64 0), 1, 8) := by kernel_rfl
/-- A text of two bytes and more: its first number, and what is behind it. -/
theorem two_step (r : ByteArray) (h : 2 ≤ r.size) : (r.extract 0 2).size = 2 ∧ (r.extract 2 r.size).size = r.size - 2 ∧ nmL (ofB r) = (nuN (ofB (r.extract 0 2)) 2 : Int) :: nmL (ofB (r.extract 2 r.size)) := by
  have hl : (ofB r).length = r.size := ofB_len r
  refine ⟨by simp; omega, by simp, ?_⟩
  have e0 : ofB (r.extract 0 2) = (ofB r).take 2 := by simp [ofB]
  have e1 : ofB (r.extract 2 r.size) = (ofB r).drop 2 := by
    rw [Lib.extract_eq, List.take_of_length_le (by rw [List.length_drop, ← Lib.size_eq]; omega)]
  rw [e0, e1]
  match ofB r, hl with
  | [], hl => simp at hl; omega
  | [x], hl => simp at hl; omega
  | x :: y :: t, hl =>
    show (256 * (x.toNat : Int) + (y.toNat : Int)) :: nmL t = _
    congr 1
    show _ = (((0 * 256 + x.toNat) * 256 + y.toNat : Nat) : Int)
    omega
theorem orow_low {W W' : World} {base : Nat} {e : TypeId} {v : Value} {n : Nat} {xs : List Value} (h : W.ownsRow base e 1 v n xs) (hk : ∀ k row fr, base ≤ k → W.heap[k]? = some (.cells row e fr) → W'.heap[k]? = W.heap[k]?) : W'.ownsRow base e 1 v n xs := by
  obtain ⟨hl, h | ⟨g, cap, cur, h1, h2, h3, h4⟩⟩ := h
  · exact ⟨hl, .inl h⟩
  · exact ⟨hl, .inr ⟨g, cap, cur, h1, h2, (hk g cur (0, 0) h2 h3).trans h3, h4⟩⟩
theorem orow_below {W W' : World} {base : Nat} {e : TypeId} {v : Value} {n : Nat} {xs : List Value} (h : W.ownsRow base e 1 v n xs) (hb : Below W.heap.size W W') : W'.ownsRow base e 1 v n xs :=
  orow_low h fun k row fr _ hr => by
    have := blk_below hb (blk_lt hr) hr
    rw [this, hr]
theorem orow_base {W : World} {base b0 : Nat} {e : TypeId} {v : Value} {n : Nat} {xs : List Value} (h : W.ownsRow base e 1 v n xs) (hb : b0 ≤ base) : W.ownsRow b0 e 1 v n xs := by
  obtain ⟨hl, h | ⟨g, cap, cur, h1, h2, h3, h4⟩⟩ := h
  · exact ⟨hl, .inl h⟩
  · exact ⟨hl, .inr ⟨g, cap, cur, h1, Nat.le_trans hb h2, h3, h4⟩⟩
theorem orow_shape {W : World} {base : Nat} {e : TypeId} {v : Value} {n : Nat} {xs : List Value} (h : W.ownsRow base e 1 v n xs) : ∃ ao cap, v = .slice ao n cap := by
  obtain ⟨hl, ⟨h, h0⟩ | ⟨g, cap, cur, h1, h2, h3, h4⟩⟩ := h
  · subst h0; exact ⟨none, 0, h⟩
  · exact ⟨_, cap, h1⟩
theorem orow_cap {W : World} {base : Nat} {e : TypeId} {ao : Option Addr} {n c : Nat} {xs : List Value} (h : W.ownsRow base e 1 (.slice ao n c) n xs) : n ≤ c := by
  obtain ⟨hl, ⟨h, h0⟩ | ⟨g, cap, cur, h1, h2, h3, h4, -⟩⟩ := h
  · omega
  · rw [(Value.slice.inj h1).2.2]; exact h4
theorem orow_ints {W : World} {base : Nat} {ao : Option Addr} {n c : Nat} {l : List Int} (h : W.ownsRow base 3 1 (.slice ao n c) n (iCells l)) : IntsAt W ao l := by
  have ho := own_of_row h
  exact IntsAt.own ho.1 (by rw [← iCells_length]; exact ho.2)
theorem wpList_append_slT {w : World} {ops : Array Oper} {rest : List Oper} {o : Oper} {a : Act} {Q : Exit → Act → World → Prop} (hg : o.guard = none) (s x : Operand) (t : TypeId)
    (hop : o.op = Op.call { callee := Callee.builtin Builtin.append, args := #[s, x], argTypes := #[t, t] })
    (base : Nat) (e : TypeId) (i : TypeInfo) (z : Value) (bytes : Nat) (h1 : Try.prog.underlying t = Option.some (.slice e)) (h2 : Try.prog.info? e = Option.some i) (h3 : i.zero = Option.some z) (h4 : i.size = 1) (h5 : i.bytes = bytes) (h6 : z.cells.size = 1)
    (ao : Option Addr) (n cap : Nat) (xs : List Value) (hs : a.eval s = .slice ao n cap) (hown : w.ownsRow base e 1 (.slice ao n cap) n xs)
    (ad : Addr) (m c : Nat) (news : List Value) (hx : a.eval x = .slice (Option.some ad) m c) (hn : news.length = m) (hc : ∀ j u, news[j]? = Option.some u → w.cell? (ad.add j) = Option.some u) (h1c : ∀ u ∈ news, u.oneCell' = true)
    (b2 : (n + m) * bytes ≤ 140737488355328) (b1 : n + m ≤ 140737488355328) (hbase : base ≤ w.heap.size)
    (hK : ∀ ao' cap' w', w'.ownsRow base e 1 (.slice ao' (n + m) cap') (n + m) (xs ++ news) → w.grownBy w' (Value.ownBlock (.slice ao n cap)) → wpList Try.prog ops Q rest (a.put o.dst (.slice ao' (n + m) cap')) w') :
    wpList Try.prog ops Q (o :: rest) a w := by
  refine wpList_append_own w hg s x t hop base e i z 1 bytes h1 h2 h3 h4 h5 h6 (by omega) (.slice ao n cap) n xs hs hown ad m c news hx (by omega) hc h1c (by unfold maxLen; omega) b2 hbase ?_
  intro v' w' hown' hgrow _
  obtain ⟨ao', cap', rfl⟩ := orow_shape hown'
  exact hK ao' cap' w' hown' hgrow
set_option maxHeartbeats 4000000 in
theorem suites_any (s : ByteArray) (w : World) (hs : s.size ≤ 1000000) :
    Calls Try.prog 34 #[.string s] w fun e w' => (∃ ao c, e = .returned (.slice ao (nmL (ofB s)).length c) ∧ w'.ownsRow w.heap.size 3 1 (.slice ao (nmL (ofB s)).length c) (nmL (ofB s)).length (iCells (nmL (ofB s)))) ∧ Below w.heap.size w w' := by
  obtain ⟨i0, hi, hz0, hz1, hz2⟩ := info_parts hp_infoI
  have hb0 := Below.refl w.heap.size w
  have HLS := Lib.hid (nmL_length (ofB s))
  have HSZ := Lib.hid (ofB_len s)
  generalize hLL : nmL (ofB s) = LL at *
  have HLL := Lib.hid hLL
  have h0 : nmL (ofB s) = LL := hLL
  clear hLL
  go_enter Try.func34, Try.ntmps34
  go_wp2_with fail
  generalize hBB : w.heap.size = B at *
  have HBB := Lib.hid hBB
  have hszB : B ≤ w.heap.size := by omega
  clear hBB
  go_loopw [0, 3] (fun sv nv wr => ∃ (r : ByteArray) (done : List Int) (n : Nat) (ao : Option Addr) (cap : Nat), sv = .string r ∧ Hid (LL = done ++ nmL (ofB r)) ∧ Hid (done.length = n) ∧ r.size ≤ 1000000 ∧ n + r.size ≤ 1000000 ∧ nv = .slice ao n cap ∧ wr.ownsRow B 3 1 (.slice ao n cap) n (iCells done) ∧ Below B w wr ∧ B ≤ wr.heap.size) (fun sv _ _ => strLen sv)
  case atStart => exact ⟨s, [], 0, none, 0, rfl, Lib.hid h0.symm, Lib.hid rfl, by omega, by omega, rfl, World.ownsRow_nil _ _ _ _, hb0, hszB⟩
  case round =>
    clear hb0 h0
    obtain ⟨r, done, n, ao, cap, rfl, HD, HLN, hr, hnr, rfl, hown, hb, hsz⟩ := hrel
    have HO := Lib.hid hown
    have HL := Lib.hid (show (iCells done).length = n by rw [iCells_length, HLN.out])
    clear hown
    by_cases hlt : 2 ≤ r.size
    · have hd : decide ((2 : Int) ≤ (r.size : Int)) = true := by simp; omega
      have hd2 : (2 : Int) ≤ (r.size : Int) := by omega
      obtain ⟨z0, z1, z2⟩ := two_step r hlt
      have CN := Lib.hid (fun W => number_any (r.extract 0 2) W (by omega))
      rw [z0] at CN
      generalize nuN (ofB (r.extract 0 2)) 2 = v at *
      have HD2 := HD.out
      rw [z2] at HD2
      have HD3 := Lib.hid (show LL = (done ++ [(v : Int)]) ++ nmL (ofB (r.extract 2 r.size)) by rw [HD2, List.append_assoc]; rfl)
      have HN := Lib.hid (show iCells done ++ [.int .i64 (v : Int)] = iCells (done ++ [(v : Int)]) by rw [iCells_append]; rfl)
      have HLN2 := Lib.hid (show (done ++ [(v : Int)]).length = n + 1 by rw [List.length_append, HLN.out]; rfl)
      obtain ⟨r2, hr2⟩ : ∃ r2, r.extract 2 r.size = r2 := ⟨_, rfl⟩
      obtain ⟨r1, hr1⟩ : ∃ r1, r.extract 0 2 = r1 := ⟨_, rfl⟩
      rw [hr2] at HD3 z1
      rw [hr1] at CN
      clear z0 z2 HD2 HD
      go_wp2_with fail
      refine (CN.out _).mono ?_
      rintro e W1 ⟨rfl, bk⟩
      have HO1 := Lib.hid (orow_below HO.out bk)
      have hB1 : Below B w W1 := hb.trans (bk.mono hsz)
      have hsz1 : B ≤ W1.heap.size := Nat.le_trans hsz bk.size
      clear HO bk hb hsz CN
      go_wp2_with (at_builtin; refine wpList_append_slT rfl (.tmp 9) (.tmp 13) 22 rfl B 3 i0 (.int .i64 0) 8 Try.underlying22 hi hz0 hz1 hz2 rfl ao n cap _ rfl (orow_below HO1.out (below_new _ _)) ⟨W1.heap.size, 0, none⟩ 1 1 [.int .i64 (v : Int)] rfl rfl (cell_one_new _ _ _) ?b2 ?b3 ?b4 ?b5 ?_)
      case b2 => intro u hu; simp at hu; subst hu; rfl
      case b3 => omega
      case b4 => omega
      case b5 => simp; omega
      intro ao5 cp5 W5 hown5 hgrow5
      have hb5 : Below B w W5 := below_append (hB1.alloc hsz1 _) (by simp; omega) (own_of_row (orow_below HO1.out (below_new _ _))).1 hgrow5
      have hsz5 : B ≤ W5.heap.size := by have := hgrow5.size; simp at this; omega
      rw [HN.out] at hown5
      clear hgrow5 HO1 hB1
      go_wp2_with fail
      go_roundw
      case rel => exact ⟨r2, done ++ [(v : Int)], n + 1, ao5, cp5, by rw [← hr2], HD3, HLN2, by omega, by omega, rfl, hown5, hb5, hsz5⟩
      case measure => simp only [strLen]; first | omega | (rw [hr2]; omega) | skip
    · have hd : decide ((2 : Int) ≤ (r.size : Int)) = false := by simp; omega
      have hnil : nmL (ofB r) = [] := by
        have hl := ofB_len r
        match ofB r, hl with
        | [], _ => rfl
        | [x], _ => rfl
        | x :: y :: t, hl => simp at hl; omega
      have hdone : LL = done := by rw [HD.out, hnil, List.append_nil]
      have HDN := Lib.hid hdone
      clear hdone hnil HD
      go_wp2_with fail
      go_ret
      refine ⟨⟨ao, cap, ?_, ?_⟩, by rw [HBB.out]; exact hb⟩
      · rw [HDN.out, HLN.out]; rfl
      · rw [HDN.out, HLN.out, HBB.out]; exact HO.out
theorem su_two (x : Int) (h0 : 0 ≤ x) (h1 : x ≤ 65535) : beL 2 x = suP x := by
  show [wbyte x 8, wbyte x 0] = [_, _]
  have e1 : x.tdiv 256 = x / 256 := Int.tdiv_eq_ediv_of_nonneg h0
  have e2 : x.tmod 256 = x % 256 := Int.tmod_eq_emod_of_nonneg h0
  rw [e1, e2]
  simp only [wbyte]
  congr 3
  · omega
  · omega
theorem su_more (su : List Int) (k : Nat) (x : Int) (hx : su[k]? = some x) (h0 : 0 ≤ x) (h1 : x ≤ 65535) : toB (suL (su.take k)) ++ toB (beL 2 x) = toB (suL (su.take (k + 1))) := by
  obtain ⟨hk, rfl⟩ := List.getElem?_eq_some_iff.1 hx
  rw [List.take_succ_eq_append_getElem hk, suL_append, toB_add, su_two _ h0 h1]
  simp [suL]
theorem suits_at {su : List Int} (h : suitsOk su = true) (k : Nat) (x : Int) (hx : su[k]? = some x) : 0 ≤ x ∧ x ≤ 65535 := by
  have := List.all_eq_true.1 h x (List.mem_of_getElem? hx)
  simpa using this
set_option maxHeartbeats 4000000 in
theorem suiteBytes_any (ao : Option Addr) (n c : Nat) (su : List Int) (w : World) (hn : su.length = n) (hm : n ≤ 1000000) (hok : suitsOk su = true) (hI : IntsAt w ao su) :
    Calls Try.prog 37 #[.slice ao n c] w fun e w' => e = .returned (.string (toB (suL su))) ∧ Below w.heap.size w w' := by
  have HI := Lib.hid hI
  have HN := Lib.hid hn
  have HK := Lib.hid hok
  have hb0 := Below.refl w.heap.size w
  clear hI hn hok
  go_enter Try.func37, Try.ntmps37
  go_wp2_with fail
  generalize hBB : w.heap.size = B at *
  have HBB := Lib.hid hBB
  have hszB : B ≤ w.heap.size := by omega
  clear hBB
  go_loopw [3, 5, 8] (fun sv xv iv wr => ∃ (k : Nat), k ≤ n ∧ iv = .int .i64 (k : Int) ∧ sv = .string (toB (suL (su.take k))) ∧ Below B w wr) (fun _ _ iv _ => n - (intOf iv).toNat)
  case atStart => exact ⟨0, by omega, rfl, rfl, hb0⟩
  case round =>
    clear hb0
    obtain ⟨k, hk, rfl, rfl, hb⟩ := hrel
    by_cases hlt : k < n
    · have hd : decide ((k : Int) < (n : Int)) = true := by simp; omega
      have hkn : (k : Int) < (n : Int) := by omega
      obtain ⟨g, off, rfl, hcell⟩ := (HI.out.step (by rw [HBB.out]; exact hb)) k (by rw [HN.out]; exact hlt)
      have hx : su[k]? = some (su.getD k 0) := by rw [List.getD_eq_getElem?_getD, List.getElem?_eq_getElem (by rw [HN.out]; exact hlt)]; rfl
      obtain ⟨x0, x1⟩ := suits_at HK.out k _ hx
      have HM := Lib.hid (su_more su k _ hx x0 x1)
      have hz : (toB (suL (su.take k))).size ≤ 2000000 := by rw [toB_size, suL_length, List.length_take]; omega
      have hz2 : (toB (beL 2 (su.getD k 0))).size = 2 := by rw [toB_size, beL_length]
      have CB := Lib.hid (fun W => bigEnd_any 2 (su.getD k 0) W (by decide) (by decide))
      clear hx
      generalize su.getD k 0 = x at *
      generalize toB (beL 2 x) = b at *
      generalize toB (suL (su.take k)) = t at *
      have hz3 : t.size + b.size ≤ 9223372036854775807 := by omega
      clear hz hz2 x0 x1
      go_wp2_with fail
      refine (CB.out _).mono ?_
      rintro e W1 ⟨rfl, bk⟩
      have hb1 := hb.trans (bk.mono (Nat.le_trans hszB hb.size))
      clear bk hb CB hcell
      go_wp2_with fail
      go_roundw
      case rel => exact ⟨k + 1, by omega, by go_num, by rw [← HM.out], hb1⟩
      case measure => simp [intOf]; omega
    · have hd : decide ((k : Int) < (n : Int)) = false := by simp; omega
      obtain rfl : k = n := by omega
      have HT : Hid (suL (su.take k) = suL su) := Lib.hid (by rw [List.take_of_length_le (by rw [HN.out]; exact Nat.le_refl _)])
      generalize suL (su.take k) = t at *
      go_wp2_with fail
      go_ret
      exact ⟨by rw [← HT.out]; rfl, by rw [HBB.out]; exact hb⟩
theorem win_in (x : Int) : winB x 0 65535 = (decide (0 ≤ x) && decide (x ≤ 65535)) := rfl
set_option maxHeartbeats 4000000 in
theorem areSuites_any (ao : Option Addr) (n c : Nat) (su : List Int) (w : World) (hn : su.length = n) (hm : n ≤ 1000000) (hI : IntsAt w ao su) :
    Calls Try.prog 26 #[.slice ao n c] w fun e w' => e = .returned (.bool (suitsOk su)) ∧ Below w.heap.size w w' := by
  have HI := Lib.hid hI
  have HN := Lib.hid hn
  have hb0 := Below.refl w.heap.size w
  clear hI hn
  go_enter Try.func26, Try.ntmps26
  go_wp2_with fail
  generalize hBB : w.heap.size = B at *
  have HBB := Lib.hid hBB
  have hszB : B ≤ w.heap.size := by omega
  clear hBB
  go_loopw [4, 7] (fun xv iv wr => ∃ (k : Nat), k ≤ n ∧ iv = .int .i64 (k : Int) ∧ Hid (suitsOk (su.take k) = true) ∧ Below B w wr) (fun _ iv _ => n - (intOf iv).toNat)
  case atStart => exact ⟨0, by omega, rfl, Lib.hid rfl, hb0⟩
  case round =>
    clear hb0
    obtain ⟨k, hk, rfl, HT, hb⟩ := hrel
    by_cases hlt : k < n
    · have hd : decide ((k : Int) < (n : Int)) = true := by simp; omega
      have hkn : (k : Int) < (n : Int) := by omega
      obtain ⟨g, off, rfl, hcell⟩ := (HI.out.step (by rw [HBB.out]; exact hb)) k (by rw [HN.out]; exact hlt)
      have hx : su[k]? = some (su.getD k 0) := by rw [List.getD_eq_getElem?_getD, List.getElem?_eq_getElem (by rw [HN.out]; exact hlt)]; rfl
      have HX := Lib.hid hx
      have CW := Lib.hid (fun W => isWithin_any (su.getD k 0) 0 65535 W)
      clear hx
      generalize su.getD k 0 = x at *
      by_cases hw : winB x 0 65535 = true
      · rw [hw] at CW
        rw [win_in] at hw
        simp only [Bool.and_eq_true, decide_eq_true_eq] at hw
        have HF := Lib.hid (suits_snoc _ _ _ HX.out HT.out hw.1 hw.2)
        clear hw HX
        go_wp2_with fail
        refine (CW.out _).mono ?_
        rintro e W1 ⟨rfl, bk⟩
        have hb1 := hb.trans (bk.mono (Nat.le_trans hszB hb.size))
        clear bk hb CW hcell
        go_wp2_with fail
        go_roundw
        case rel => exact ⟨k + 1, by omega, by go_num, HF, hb1⟩
        case measure => simp [intOf]; omega
      · have hwf : winB x 0 65535 = false := by simpa using hw
        rw [hwf] at CW
        have HF := Lib.hid (suits_bad _ _ _ HX.out (by
          rw [win_in] at hwf
          by_cases a : x < 0
          · exact .inl a
          · refine .inr ?_
            rw [decide_eq_true (by omega), Bool.true_and, decide_eq_false_iff_not] at hwf
            omega))
        clear hw hwf HX
        go_wp2_with fail
        refine (CW.out _).mono ?_
        rintro e W1 ⟨rfl, bk⟩
        have hb1 := hb.trans (bk.mono (Nat.le_trans hszB hb.size))
        clear bk hb CW hcell
        go_wp2_with fail
        go_ret
        exact ⟨by rw [HF.out]; rfl, by rw [HBB.out]; exact hb1⟩
    · have hd : decide ((k : Int) < (n : Int)) = false := by simp; omega
      obtain rfl : k = n := by omega
      have HF : Hid (suitsOk su = true) := Lib.hid (by have := HT.out; rwa [List.take_of_length_le (by rw [HN.out]; exact Nat.le_refl _)] at this)
      go_wp2_with fail
      go_ret
      exact ⟨by rw [HF.out]; rfl, by rw [HBB.out]; exact hb⟩
end Go.Proofs.Ytjemikbnncfonaa
