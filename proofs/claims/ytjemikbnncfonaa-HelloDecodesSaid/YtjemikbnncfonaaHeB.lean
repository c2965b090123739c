/- A message's bytes are decoded to it. Arithmetic alone. -/
import Derived.Test.YtjemikbnncfonaaHeA
namespace Go.Proofs.Ytjemikbnncfonaa
open Go.RowKit Go.Sort
set_option maxRecDepth 100000
set_option linter.unusedSimpArgs false
set_option linter.unusedVariables false

theorem w0_nat (n : Nat) (h : n < 256) : (wbyte (n : Int) 0).toNat = n := by
  have e := wbyte_toNat (n : Int) 0
  simp only [Int.pow_zero] at e; omega
theorem n2_val (n : Nat) (h : n < 65536) : 256 * (wbyte (n : Int) 8).toNat + (wbyte (n : Int) 0).toNat = n := by
  have e := wbyte_toNat (n : Int) 0
  have f := wbyte_toNat (n : Int) 8
  simp only [Int.pow_zero] at e
  rw [show (2 : Int) ^ 8 = 256 by decide] at f; omega
theorem n3_val (n : Nat) (h : n < 16777216) : 65536 * (wbyte (n : Int) 16).toNat + 256 * (wbyte (n : Int) 8).toNat + (wbyte (n : Int) 0).toNat = n := by
  have e := wbyte_toNat (n : Int) 0
  have f := wbyte_toNat (n : Int) 8
  have g := wbyte_toNat (n : Int) 16
  simp only [Int.pow_zero] at e
  rw [show (2 : Int) ^ 8 = 256 by decide] at f
  rw [show (2 : Int) ^ 16 = 65536 by decide] at g; omega
theorem suP_val (x : Int) (h0 : 0 ≤ x) (h1 : x ≤ 65535) : 256 * ((wbyte (x.tdiv 256) 0).toNat : Int) + ((wbyte (x.tmod 256) 0).toNat : Int) = x := by
  have e := wbyte_toNat (x.tdiv 256) 0
  have f := wbyte_toNat (x.tmod 256) 0
  simp only [Int.pow_zero] at e f
  rw [Int.tdiv_eq_ediv_of_nonneg h0] at e ⊢
  rw [Int.tmod_eq_emod_of_nonneg h0] at f ⊢
  omega
theorem getD_at (pre : List UInt8) (x : UInt8) (post : List UInt8) : (pre ++ x :: post).getD pre.length 0 = x := by simp [List.getD_eq_getElem?_getD]
theorem twoB_at (pre : List UInt8) (x y : UInt8) (post : List UInt8) (k : Nat) (hk : pre.length = k) : twoB (toB (pre ++ x :: y :: post)) k = 256 * (x.toNat : Int) + (y.toNat : Int) := by
  subst hk
  rw [twoB, toB_size, if_neg (by simp), of_toB, getD_at]
  rw [show pre ++ x :: y :: post = (pre ++ [x]) ++ y :: post by simp, show pre.length + 1 = (pre ++ [x]).length by simp, getD_at]
theorem sus_at (su : List Int) : ∀ (pre post : List UInt8) (k : Nat), pre.length = 37 + 2 * k → suitsOk su = true → ((List.range su.length).map fun j => twoB (toB (pre ++ suL su ++ post)) (37 + 2 * (k + j))) = su := by
  induction su with
  | nil => intros; rfl
  | cons x r ih =>
    intro pre post k hp hs
    simp only [suitsOk, List.all_cons, Bool.and_eq_true, decide_eq_true_eq] at hs
    rw [List.length_cons, List.range_succ_eq_map, List.map_cons, List.map_map]
    have e : pre ++ suL (x :: r) ++ post = pre ++ wbyte (x.tdiv 256) 0 :: wbyte (x.tmod 256) 0 :: (suL r ++ post) := by simp [suL, suP]
    have e2 : pre ++ suL (x :: r) ++ post = (pre ++ suP x) ++ suL r ++ post := by simp [suL, suP]
    congr 1
    · rw [e, twoB_at _ _ _ _ _ (by omega)]
      exact suP_val x hs.1.1 hs.1.2
    · have h := ih (pre ++ suP x) post (k + 1) (by simp [suP, hp]; omega) hs.2
      rw [e2]
      refine Eq.trans (List.map_congr_left fun j _ => ?_) h
      show twoB _ (37 + 2 * (k + (j + 1))) = _
      rw [show k + (j + 1) = k + 1 + j by omega]
theorem part_at (a b c : List UInt8) (k n : Nat) (ha : a.length = k) (hb : b.length = n) : partB (toB (a ++ b ++ c)) k n = toB b := by
  subst ha hb
  rw [partB, toB_size, if_neg (by simp), of_toB, List.append_assoc, List.drop_left, List.take_left]
theorem toB_ofB_len {b : ByteArray} {n : Nat} (h : b.size = n) : (ofB b).length = n := (ofB_len b).trans h
theorem bodB_client (m : HMsg) (h : m.k = 1) : bodB m = toB ([3, 3] ++ ofB m.rn ++ ([0] ++ (n2 (2 * m.su.length) ++ (suL m.su ++ ([1, 0] ++ (n2 (33 + m.sh.size) ++ (extC ++ ofB m.sh))))))) := by
  apply ofB_inj
  rw [bodB, if_pos h, of_toB]
  simp only [c2, ofB_add, of_toB, ByteArray.size_append, toB_size, suL_length, List.append_assoc]
  rfl
theorem bodB_server (m : HMsg) (h : m.k = 2) : bodB m = toB ([3, 3] ++ ofB m.rn ++ ([0] ++ (suL m.su ++ ([0] ++ (n2 (14 + m.sh.size) ++ (extS ++ ofB m.sh)))))) := by
  apply ofB_inj
  rw [bodB, if_neg (by rw [h]; decide), if_pos h, of_toB]
  simp only [c2, ofB_add, of_toB, ByteArray.size_append, toB_size, suL_length, List.append_assoc]
  rfl
theorem bodB_cert (m : HMsg) (h : m.k = 11) : bodB m = toB ([0] ++ n3 (3 + m.da.size + 2) ++ n3 m.da.size ++ ofB m.da ++ [0, 0]) := by
  apply ofB_inj
  rw [bodB, if_neg (by rw [h]; decide), if_neg (by rw [h]; decide), if_neg (by rw [h]; decide), if_pos h, of_toB]
  simp only [c3, ofB_add, of_toB, ByteArray.size_append, toB_size, List.append_assoc]
  rfl
theorem bodB_verify (m : HMsg) (h : m.k = 15) : bodB m = toB ([8, 7] ++ n2 m.da.size ++ ofB m.da) := by
  apply ofB_inj
  rw [bodB, if_neg (by rw [h]; decide), if_neg (by rw [h]; decide), if_neg (by rw [h]; decide), if_neg (by rw [h]; decide), if_neg (by rw [h]; decide), if_pos h, of_toB]
  simp only [c2, ofB_add, of_toB, List.append_assoc]
theorem msg_eq {m : HMsg} {k su} {rn sh da : ByteArray} {a : Bool} (h1 : m.k = k) (h2 : m.rn = rn) (h3 : m.sh = sh) (h4 : m.su = su) (h5 : m.da = da) (h6 : m.ask = a) : (⟨k, rn, sh, su, da, a⟩ : HMsg) = m := by
  subst h1 h2 h3 h4 h5 h6; rfl
theorem bare_ok {m : HMsg} (h : bare m = true) : m.rn = emB ∧ m.sh = emB ∧ m.su = [] := by
  simp only [bare, Bool.and_eq_true, decide_eq_true_eq, List.length_eq_zero_iff] at h
  exact ⟨h.1.1, h.1.2, h.2⟩
theorem suited_ok {m : HMsg} {n : Nat} (h : suited m n = true) : m.rn.size = 32 ∧ m.sh.size = 32 ∧ 1 ≤ m.su.length ∧ m.su.length ≤ n ∧ suitsOk m.su = true := by
  simp only [suited, Bool.and_eq_true, decide_eq_true_eq] at h
  exact ⟨h.1.1.1.1, h.1.1.1.2, h.1.1.2, h.1.2, h.2⟩
theorem okM_kinds {m : HMsg} (h : okM m = true) : m.k = 1 ∨ m.k = 2 ∨ m.k = 8 ∨ m.k = 11 ∨ m.k = 13 ∨ m.k = 15 ∨ m.k = 20 ∨ m.k = 24 := by
  unfold okM at h
  repeat (split at h; · simp_all)
  cases h
theorem okM_1 {m : HMsg} (hk : m.k = 1) (h : okM m = true) : suited m 4 = true ∧ m.da = emB ∧ m.ask = false := by
  rw [okM, if_pos hk] at h
  simp only [Bool.and_eq_true, decide_eq_true_eq, Bool.not_eq_true'] at h
  exact ⟨h.1, h.2.1, h.2.2⟩
theorem okM_2 {m : HMsg} (hk : m.k = 2) (h : okM m = true) : suited m 1 = true ∧ m.da = emB ∧ m.ask = false := by
  rw [okM, if_neg (by rw [hk]; decide), if_pos hk] at h
  simp only [Bool.and_eq_true, decide_eq_true_eq, Bool.not_eq_true'] at h
  exact ⟨h.1, h.2.1, h.2.2⟩
theorem okM_8 {m : HMsg} (hk : m.k = 8 ∨ m.k = 13) (h : okM m = true) : bare m = true ∧ m.da = emB ∧ m.ask = false := by
  have e : (bare m && decide (m.da = emB) && !m.ask) = true := by
    unfold okM at h
    rcases hk with hk | hk <;> simpa [hk] using h
  simp only [Bool.and_eq_true, decide_eq_true_eq, Bool.not_eq_true'] at e
  exact ⟨e.1.1, e.1.2, e.2⟩
theorem okM_11 {m : HMsg} (hk : m.k = 11) (h : okM m = true) : bare m = true ∧ 1 ≤ m.da.size ∧ m.da.size ≤ 1000 ∧ m.ask = false := by
  rw [okM, if_neg (by rw [hk]; decide), if_neg (by rw [hk]; decide), if_neg (by rw [hk]; decide), if_pos hk] at h
  simp only [Bool.and_eq_true, decide_eq_true_eq, Bool.not_eq_true'] at h
  exact ⟨h.2.1, h.1.1, h.1.2, h.2.2⟩
theorem okM_15 {m : HMsg} (hk : m.k = 15) (h : okM m = true) : bare m = true ∧ m.da.size = 64 ∧ m.ask = false := by
  rw [okM, if_neg (by rw [hk]; decide), if_neg (by rw [hk]; decide), if_neg (by rw [hk]; decide), if_neg (by rw [hk]; decide), if_neg (by rw [hk]; decide), if_pos hk] at h
  simp only [Bool.and_eq_true, decide_eq_true_eq, Bool.not_eq_true'] at h
  exact ⟨h.2.1, h.1, h.2.2⟩
theorem okM_20 {m : HMsg} (hk : m.k = 20) (h : okM m = true) : bare m = true ∧ m.da.size = 32 ∧ m.ask = false := by
  rw [okM, if_neg (by rw [hk]; decide), if_neg (by rw [hk]; decide), if_neg (by rw [hk]; decide), if_neg (by rw [hk]; decide), if_neg (by rw [hk]; decide), if_neg (by rw [hk]; decide), if_pos hk] at h
  simp only [Bool.and_eq_true, decide_eq_true_eq, Bool.not_eq_true'] at h
  exact ⟨h.2.1, h.1, h.2.2⟩
theorem okM_24 {m : HMsg} (hk : m.k = 24) (h : okM m = true) : bare m = true ∧ m.da = emB := by
  rw [okM, if_neg (by rw [hk]; decide), if_neg (by rw [hk]; decide), if_neg (by rw [hk]; decide), if_neg (by rw [hk]; decide), if_neg (by rw [hk]; decide), if_neg (by rw [hk]; decide), if_neg (by rw [hk]; decide), if_pos hk] at h
  simp only [Bool.and_eq_true, decide_eq_true_eq] at h
  exact h
theorem last_part (a b : List UInt8) (n : Nat) (hb : b.length = n) : partB (toB (a ++ b)) ((toB (a ++ b)).size - n) n = toB b := by
  have e : (toB (a ++ b)).size - n = a.length := by rw [toB_size, List.length_append]; omega
  rw [e]
  have := part_at a b [] a.length n rfl hb
  rwa [List.append_nil] at this

theorem seem_1 (m : HMsg) (hk : m.k = 1) (h : okM m = true) : seem 1 (bodB m) = m := by
  obtain ⟨hs, hd, ha⟩ := okM_1 hk h
  obtain ⟨h1, h2, h3, h4, h5⟩ := suited_ok hs
  have l1 := toB_ofB_len h1
  have l2 := toB_ofB_len h2
  rw [bodB_client m hk, seem, if_pos rfl]
  refine msg_eq hk ?_ ?_ ?_ hd ha
  · rw [part_at _ _ _ 2 32 rfl l1, toB_of]
  · rw [show [3, 3] ++ ofB m.rn ++ ([0] ++ (n2 (2 * m.su.length) ++ (suL m.su ++ ([1, 0] ++ (n2 (33 + m.sh.size) ++ (extC ++ ofB m.sh)))))) = ([3, 3] ++ ofB m.rn ++ ([0] ++ (n2 (2 * m.su.length) ++ (suL m.su ++ ([1, 0] ++ (n2 (33 + m.sh.size) ++ extC)))))) ++ ofB m.sh by simp, last_part _ _ 32 l2, toB_of]
  · have et : twoB (toB ([3, 3] ++ ofB m.rn ++ ([0] ++ (n2 (2 * m.su.length) ++ (suL m.su ++ ([1, 0] ++ (n2 (33 + m.sh.size) ++ (extC ++ ofB m.sh)))))))) 35 = ((2 * m.su.length : Nat) : Int) := by
      rw [show [3, 3] ++ ofB m.rn ++ ([0] ++ (n2 (2 * m.su.length) ++ (suL m.su ++ ([1, 0] ++ (n2 (33 + m.sh.size) ++ (extC ++ ofB m.sh)))))) = ([3, 3] ++ ofB m.rn ++ [0]) ++ wbyte ((2 * m.su.length : Nat) : Int) 8 :: wbyte ((2 * m.su.length : Nat) : Int) 0 :: (suL m.su ++ ([1, 0] ++ (n2 (33 + m.sh.size) ++ (extC ++ ofB m.sh)))) by simp [n2], twoB_at _ _ _ _ 35 (by simp [l1])]
      have := n2_val (2 * m.su.length) (by omega)
      omega
    rw [et, show min 5 ((((2 * m.su.length : Nat) : Int).toNat + 1) / 2) = m.su.length by omega]
    have := sus_at m.su ([3, 3] ++ ofB m.rn ++ ([0] ++ n2 (2 * m.su.length))) ([1, 0] ++ (n2 (33 + m.sh.size) ++ (extC ++ ofB m.sh))) 0 (by simp [l1, n2]) h5
    rw [susB]
    refine Eq.symm (Eq.trans ?_ this)
    refine List.map_congr_left fun j _ => ?_
    rw [Nat.zero_add]
    congr 2
    simp
theorem seem_2 (m : HMsg) (hk : m.k = 2) (h : okM m = true) : seem 2 (bodB m) = m := by
  obtain ⟨hs, hd, ha⟩ := okM_2 hk h
  obtain ⟨h1, h2, h3, h4, h5⟩ := suited_ok hs
  have l1 := toB_ofB_len h1
  have l2 := toB_ofB_len h2
  obtain ⟨x, hx⟩ : ∃ x, m.su = [x] := by
    match h6 : m.su with
    | [x] => exact ⟨x, rfl⟩
    | [] => rw [h6] at h3; exact absurd h3 (by decide)
    | _ :: _ :: _ => rw [h6] at h4; simp at h4
  rw [bodB_server m hk, seem, if_neg (by decide), if_pos rfl]
  refine msg_eq hk ?_ ?_ ?_ hd ha
  · rw [part_at _ _ _ 2 32 rfl l1, toB_of]
  · rw [show [3, 3] ++ ofB m.rn ++ ([0] ++ (suL m.su ++ ([0] ++ (n2 (14 + m.sh.size) ++ (extS ++ ofB m.sh))))) = ([3, 3] ++ ofB m.rn ++ ([0] ++ (suL m.su ++ ([0] ++ (n2 (14 + m.sh.size) ++ extS))))) ++ ofB m.sh by simp, last_part _ _ 32 l2, toB_of]
  · rw [hx] at h5 ⊢
    simp only [suitsOk, List.all_cons, List.all_nil, Bool.and_true, Bool.and_eq_true, decide_eq_true_eq] at h5
    rw [show [3, 3] ++ ofB m.rn ++ ([0] ++ (suL [x] ++ ([0] ++ (n2 (14 + m.sh.size) ++ (extS ++ ofB m.sh))))) = ([3, 3] ++ ofB m.rn ++ [0]) ++ wbyte (x.tdiv 256) 0 :: wbyte (x.tmod 256) 0 :: ([0] ++ (n2 (14 + m.sh.size) ++ (extS ++ ofB m.sh))) by simp [suL, suP], twoB_at _ _ _ _ 35 (by simp [l1]), suP_val x h5.1 h5.2]
theorem seem_11 (m : HMsg) (hk : m.k = 11) (h : okM m = true) : seem 11 (bodB m) = m := by
  obtain ⟨hb, h1, h2, ha⟩ := okM_11 hk h
  obtain ⟨b1, b2, b3⟩ := bare_ok hb
  rw [bodB_cert m hk, seem, if_neg (by decide), if_neg (by decide), if_pos rfl]
  refine msg_eq hk b1 b2 b3 ?_ ha
  have hs : (toB ([0] ++ n3 (3 + m.da.size + 2) ++ n3 m.da.size ++ ofB m.da ++ [0, 0])).size = m.da.size + 9 := by
    rw [toB_size]; simp [n3, ofB_len]
  rw [hs, if_pos (by omega), part_at _ _ _ 7 _ (by simp [n3]) (by rw [ofB_len]; omega), toB_of]
theorem seem_15 (m : HMsg) (hk : m.k = 15) (h : okM m = true) : seem 15 (bodB m) = m := by
  obtain ⟨hb, h1, ha⟩ := okM_15 hk h
  obtain ⟨b1, b2, b3⟩ := bare_ok hb
  rw [bodB_verify m hk, seem, if_neg (by decide), if_neg (by decide), if_neg (by decide), if_pos rfl]
  refine msg_eq hk b1 b2 b3 ?_ ha
  have := part_at ([8, 7] ++ n2 m.da.size) (ofB m.da) [] 4 64 (by simp [n2]) (toB_ofB_len h1)
  rw [List.append_nil] at this
  rw [this, toB_of]
theorem seem_ok (m : HMsg) (h : okM m = true) : seem m.k (bodB m) = m := by
  rcases okM_kinds h with hk | hk | hk | hk | hk | hk | hk | hk
  · rw [hk]; exact seem_1 m hk h
  · rw [hk]; exact seem_2 m hk h
  · obtain ⟨hb, hd, ha⟩ := okM_8 (.inl hk) h
    obtain ⟨b1, b2, b3⟩ := bare_ok hb
    rw [hk, seem, if_neg (by decide), if_neg (by decide), if_neg (by decide), if_neg (by decide), if_neg (by decide), if_neg (by decide)]
    exact msg_eq hk b1 b2 b3 hd ha
  · rw [hk]; exact seem_11 m hk h
  · obtain ⟨hb, hd, ha⟩ := okM_8 (.inr hk) h
    obtain ⟨b1, b2, b3⟩ := bare_ok hb
    rw [hk, seem, if_neg (by decide), if_neg (by decide), if_neg (by decide), if_neg (by decide), if_neg (by decide), if_neg (by decide)]
    exact msg_eq hk b1 b2 b3 hd ha
  · rw [hk]; exact seem_15 m hk h
  · obtain ⟨hb, hd, ha⟩ := okM_20 hk h
    obtain ⟨b1, b2, b3⟩ := bare_ok hb
    rw [hk, seem, if_neg (by decide), if_neg (by decide), if_neg (by decide), if_neg (by decide), if_pos rfl]
    refine msg_eq hk b1 b2 b3 ?_ ha
    rw [bodB]
    simp [hk]
  · obtain ⟨hb, hd⟩ := okM_24 hk h
    obtain ⟨b1, b2, b3⟩ := bare_ok hb
    rw [hk, seem, if_neg (by decide), if_neg (by decide), if_neg (by decide), if_neg (by decide), if_neg (by decide), if_pos rfl]
    refine msg_eq hk b1 b2 b3 hd ?_
    have e : bodB m = if m.ask then toB [1] else toB [0] := by rw [bodB]; simp [hk]
    rw [e]
    cases m.ask with
    | true => simp
    | false =>
      rw [if_neg (by decide)]
      exact (decide_eq_false fun h => by have := congrArg ofB h; rw [of_toB, of_toB] at this; exact absurd this (by decide)).symm
theorem bodB_size (m : HMsg) (h : okM m = true) : (bodB m).size ≤ 1009 := by
  rcases okM_kinds h with hk | hk | hk | hk | hk | hk | hk | hk
  · obtain ⟨hs, -, -⟩ := okM_1 hk h
    obtain ⟨h1, h2, h3, h4, -⟩ := suited_ok hs
    rw [bodB_client m hk, toB_size]
    simp [n2, suL_length, ofB_len, h1, h2, extC]; omega
  · obtain ⟨hs, -, -⟩ := okM_2 hk h
    obtain ⟨h1, h2, h3, h4, -⟩ := suited_ok hs
    rw [bodB_server m hk, toB_size]
    simp [n2, suL_length, ofB_len, h1, h2, extS]; omega
  · rw [bodB]; simp [hk, toB_size]
  · obtain ⟨-, h1, h2, -⟩ := okM_11 hk h
    rw [bodB_cert m hk, toB_size]
    simp [n3, ofB_len]; omega
  · rw [bodB]; simp [hk, toB_size]
  · obtain ⟨-, h1, -⟩ := okM_15 hk h
    rw [bodB_verify m hk, toB_size]
    simp [n2, ofB_len]; omega
  · obtain ⟨-, h1, -⟩ := okM_20 hk h
    rw [bodB]; simp [hk, h1]
  · rw [bodB]; cases m.ask <;> simp [hk, toB_size]
theorem encB_list (m : HMsg) (r : ByteArray) : ofB (encB m ++ r) = wbyte m.k 0 :: wbyte ((bodB m).size : Int) 16 :: wbyte ((bodB m).size : Int) 8 :: wbyte ((bodB m).size : Int) 0 :: (ofB (bodB m) ++ ofB r) := by
  rw [encB, c3]
  simp only [ofB_add, of_toB, n3, List.append_assoc, List.cons_append, List.nil_append]
theorem encB_size (m : HMsg) : (encB m).size = 4 + (bodB m).size := by
  rw [encB, c3]
  simp only [ByteArray.size_append, toB_size]
  simp [n3]; omega
theorem szH_enc (m : HMsg) (r : ByteArray) (h : okM m = true) : szH (encB m ++ r) = (bodB m).size := by
  have hb := bodB_size m h
  rw [szH, encB_list]
  have := n3_val (bodB m).size (by omega)
  simp only [List.getD_cons_succ, List.getD_cons_zero]
  omega
theorem dec_enc (m : HMsg) (r : ByteArray) (h : okM m = true) : decE (encB m ++ r) = 0 ∧ decM (encB m ++ r) = m ∧ decR (encB m ++ r) = r := by
  have hb := bodB_size m h
  have hz := szH_enc m r h
  have hk : kindH (encB m ++ r) = m.k := by
    rw [kindH, encB_list, List.getD_cons_zero, wbyte_toNat]
    rcases okM_kinds h with hk | hk | hk | hk | hk | hk | hk | hk <;> rw [hk] <;> decide
  have hc : cutB (encB m ++ r) = bodB m := by
    rw [cutB, hz, encB_list]
    simp only [List.drop_succ_cons, List.drop_zero]
    rw [← ofB_len, List.take_left, toB_of]
  have hr : restB (encB m ++ r) = r := by
    rw [restB, hz, encB_list, show 4 + (bodB m).size = (bodB m).size + 1 + 1 + 1 + 1 by omega]
    simp only [List.drop_succ_cons]
    rw [← ofB_len, List.drop_left, toB_of]
  have hh : headB (encB m ++ r) = encB m := by
    rw [headB, hz, ofB_add, ← encB_size, ← ofB_len, List.take_left, toB_of]
  have hs : seemH (encB m ++ r) = m := by rw [seemH, hk, hc, seem_ok m h]
  have hd : decE (encB m ++ r) = 0 := by
    rw [decE, hz, hs, hh, ByteArray.size_append, encB_size, if_neg (by omega), if_neg (by omega), if_neg (by omega), if_pos ⟨h, rfl⟩]
  refine ⟨hd, ?_, ?_⟩
  · rw [decM, if_pos hd, hs]
  · rw [decR, if_pos hd, hr]
/-- A beginning of a message's bytes is not it yet. -/
theorem dec_cut (m : HMsg) (n : Nat) (h : okM m = true) (hn : n < (encB m).size) : decE ((encB m).extract 0 n) = 33 := by
  have hb := bodB_size m h
  have he := encB_size m
  have hs : ((encB m).extract 0 n).size = n := by simp; omega
  rw [decE, hs]
  by_cases h4 : n < 4
  · rw [if_pos h4]
  · have hl : ofB ((encB m).extract 0 n) = (ofB (encB m)).take n := by simp [ofB]
    have e := encB_list m emB
    have e0 : ofB (encB m ++ emB) = ofB (encB m) := by rw [ofB_add]; exact List.append_nil _
    have hz : szH ((encB m).extract 0 n) = (bodB m).size := by
      rw [szH, hl]
      have g : ∀ i, i < 4 → ((ofB (encB m)).take n).getD i 0 = (ofB (encB m)).getD i 0 := fun i hi => by
        simp only [List.getD_eq_getElem?_getD, List.getElem?_take, if_pos (show i < n by omega)]
      rw [g 1 (by omega), g 2 (by omega), g 3 (by omega)]
      have := szH_enc m emB h
      rw [szH, e0] at this
      exact this
    rw [if_neg h4, hz, if_neg (by omega), if_pos (by omega)]
end Go.Proofs.Ytjemikbnncfonaa
