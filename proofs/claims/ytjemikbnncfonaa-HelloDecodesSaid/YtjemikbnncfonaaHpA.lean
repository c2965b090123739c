/- The program's own way to a message of bytes, on lists of bytes. Arithmetic alone. -/
import Derived.Test.YtjemikbnncfonaaHeB
namespace Go.Proofs.Ytjemikbnncfonaa
open Go.RowKit Go.Sort
set_option maxRecDepth 100000
set_option linter.unusedSimpArgs false
set_option linter.unusedVariables false

/-- What a text has from one place to another, if there are such places. -/
def ptB (s : ByteArray) (a b : Int) : ByteArray := if a < 0 ∨ b < a ∨ (s.size : Int) < b then emB else partB s a.toNat (b.toNat - a.toNat)
/-- A number for each two bytes. -/
def nmL : List UInt8 → List Int
  | x :: y :: r => (256 * (x.toNat : Int) + (y.toNat : Int)) :: nmL r
  | _ => []
theorem nmL_su (l : List Int) (h : suitsOk l = true) : nmL (suL l) = l := by
  induction l with
  | nil => rfl
  | cons x r ih =>
    simp only [suitsOk, List.all_cons, Bool.and_eq_true, decide_eq_true_eq] at h
    show (256 * _ + _) :: nmL (suL r) = _
    rw [suP_val x h.1.1 h.1.2, ih h.2]
/-- What a message with this body has, as the program takes it. -/
def fld (k : Int) (s : ByteArray) : HMsg :=
  if k = 1 then ⟨1, ptB s 2 34, ptB s ((s.size : Int) - 32) s.size, nmL (ofB (ptB s 37 ((s.size : Int) - 69))), emB, false⟩
  else if k = 2 then ⟨2, ptB s 2 34, ptB s ((s.size : Int) - 32) s.size, nmL (ofB (ptB s 35 ((s.size : Int) - 49))), emB, false⟩
  else if k = 11 then ⟨11, emB, emB, [], ptB s 7 ((s.size : Int) - 2), false⟩
  else if k = 15 then ⟨15, emB, emB, [], ptB s 4 s.size, false⟩
  else if k = 20 then ⟨20, emB, emB, [], s, false⟩
  else if k = 24 then ⟨24, emB, emB, [], emB, decide (s = toB [1])⟩
  else ⟨k, emB, emB, [], emB, false⟩
theorem pt_at (a b c : List UInt8) (i j : Int) (ha : (a.length : Int) = i) (hb : ((a.length + b.length : Nat) : Int) = j) : ptB (toB (a ++ b ++ c)) i j = toB b := by
  have hs : (toB (a ++ b ++ c)).size = a.length + b.length + c.length := by rw [toB_size]; simp; omega
  rw [ptB, if_neg (by rw [hs]; omega)]
  exact part_at a b c _ _ (by omega) (by omega)
theorem pt_end (a b : List UInt8) (i j : Int) (ha : (a.length : Int) = i) (hb : ((a.length + b.length : Nat) : Int) = j) : ptB (toB (a ++ b)) i j = toB b := by
  have := pt_at a b [] i j ha hb
  rwa [List.append_nil] at this
theorem fld_1 (m : HMsg) (hk : m.k = 1) (h : okM m = true) : fld 1 (bodB m) = m := by
  obtain ⟨hs, hd, ha⟩ := okM_1 hk h
  obtain ⟨h1, h2, h3, h4, h5⟩ := suited_ok hs
  have l1 := toB_ofB_len h1
  have l2 := toB_ofB_len h2
  have lz := suL_length m.su
  rw [bodB_client m hk, fld, if_pos rfl]
  have hsz : (toB ([3, 3] ++ ofB m.rn ++ ([0] ++ (n2 (2 * m.su.length) ++ (suL m.su ++ ([1, 0] ++ (n2 (33 + m.sh.size) ++ (extC ++ ofB m.sh)))))))).size = 106 + 2 * m.su.length := by
    rw [toB_size]; simp [l1, l2, lz, n2, extC]; omega
  rw [hsz]
  refine msg_eq hk ?_ ?_ ?_ hd ha
  · rw [pt_at _ _ _ 2 34 rfl (by rw [l1]; rfl), toB_of]
  · rw [show [3, 3] ++ ofB m.rn ++ ([0] ++ (n2 (2 * m.su.length) ++ (suL m.su ++ ([1, 0] ++ (n2 (33 + m.sh.size) ++ (extC ++ ofB m.sh)))))) = ([3, 3] ++ ofB m.rn ++ ([0] ++ (n2 (2 * m.su.length) ++ (suL m.su ++ ([1, 0] ++ (n2 (33 + m.sh.size) ++ extC)))))) ++ ofB m.sh by simp, pt_end _ _ _ _ (by simp [l1, lz, n2, extC]; omega) (by simp [l1, l2, lz, n2, extC]; omega), toB_of]
  · rw [show [3, 3] ++ ofB m.rn ++ ([0] ++ (n2 (2 * m.su.length) ++ (suL m.su ++ ([1, 0] ++ (n2 (33 + m.sh.size) ++ (extC ++ ofB m.sh)))))) = ([3, 3] ++ ofB m.rn ++ [0] ++ n2 (2 * m.su.length)) ++ suL m.su ++ ([1, 0] ++ (n2 (33 + m.sh.size) ++ (extC ++ ofB m.sh))) by simp, pt_at _ _ _ _ _ (by simp [l1, n2]) (by simp [l1, lz, n2]; omega), of_toB, nmL_su _ h5]
theorem fld_2 (m : HMsg) (hk : m.k = 2) (h : okM m = true) : fld 2 (bodB m) = m := by
  obtain ⟨hs, hd, ha⟩ := okM_2 hk h
  obtain ⟨h1, h2, h3, h4, h5⟩ := suited_ok hs
  have l1 := toB_ofB_len h1
  have l2 := toB_ofB_len h2
  have lz := suL_length m.su
  rw [bodB_server m hk, fld, if_neg (by decide), if_pos rfl]
  have hsz : (toB ([3, 3] ++ ofB m.rn ++ ([0] ++ (suL m.su ++ ([0] ++ (n2 (14 + m.sh.size) ++ (extS ++ ofB m.sh))))))).size = 84 + 2 * m.su.length := by
    rw [toB_size]; simp [l1, l2, lz, n2, extS]; omega
  rw [hsz]
  refine msg_eq hk ?_ ?_ ?_ hd ha
  · rw [pt_at _ _ _ 2 34 rfl (by rw [l1]; rfl), toB_of]
  · rw [show [3, 3] ++ ofB m.rn ++ ([0] ++ (suL m.su ++ ([0] ++ (n2 (14 + m.sh.size) ++ (extS ++ ofB m.sh))))) = ([3, 3] ++ ofB m.rn ++ ([0] ++ (suL m.su ++ ([0] ++ (n2 (14 + m.sh.size) ++ extS))))) ++ ofB m.sh by simp, pt_end _ _ _ _ (by simp [l1, lz, n2, extS]; omega) (by simp [l1, l2, lz, n2, extS]; omega), toB_of]
  · rw [show [3, 3] ++ ofB m.rn ++ ([0] ++ (suL m.su ++ ([0] ++ (n2 (14 + m.sh.size) ++ (extS ++ ofB m.sh))))) = ([3, 3] ++ ofB m.rn ++ [0]) ++ suL m.su ++ ([0] ++ (n2 (14 + m.sh.size) ++ (extS ++ ofB m.sh))) by simp, pt_at _ _ _ _ _ (by simp [l1]) (by simp [l1, lz]; omega), of_toB, nmL_su _ h5]
theorem fld_11 (m : HMsg) (hk : m.k = 11) (h : okM m = true) : fld 11 (bodB m) = m := by
  obtain ⟨hb, h1, h2, ha⟩ := okM_11 hk h
  obtain ⟨b1, b2, b3⟩ := bare_ok hb
  rw [bodB_cert m hk, fld, if_neg (by decide), if_neg (by decide), if_pos rfl]
  refine msg_eq hk b1 b2 b3 ?_ ha
  have hs : (toB ([0] ++ n3 (3 + m.da.size + 2) ++ n3 m.da.size ++ ofB m.da ++ [0, 0])).size = m.da.size + 9 := by
    rw [toB_size]; simp [n3, ofB_len]
  rw [hs, pt_at _ _ _ 7 _ (by simp [n3]) (by simp [n3, ofB_len]; omega), toB_of]
theorem fld_15 (m : HMsg) (hk : m.k = 15) (h : okM m = true) : fld 15 (bodB m) = m := by
  obtain ⟨hb, h1, ha⟩ := okM_15 hk h
  obtain ⟨b1, b2, b3⟩ := bare_ok hb
  rw [bodB_verify m hk, fld, if_neg (by decide), if_neg (by decide), if_neg (by decide), if_pos rfl]
  refine msg_eq hk b1 b2 b3 ?_ ha
  have hs : (toB ([8, 7] ++ n2 m.da.size ++ ofB m.da)).size = m.da.size + 4 := by
    rw [toB_size]; simp [n2, ofB_len]
  rw [hs, pt_end _ _ 4 _ (by simp [n2]) (by simp [n2, ofB_len]; omega), toB_of]
theorem fld_seem (k : Int) (s : ByteArray) (h1 : k ≠ 1) (h2 : k ≠ 2) (h3 : k ≠ 11) (h4 : k ≠ 15) : fld k s = seem k s := by
  rw [fld, seem, if_neg h1, if_neg h2, if_neg h3, if_neg h4, if_neg h1, if_neg h2, if_neg h3, if_neg h4]
theorem fld_ok (m : HMsg) (h : okM m = true) : fld m.k (bodB m) = m := by
  rcases okM_kinds h with hk | hk | hk | hk | hk | hk | hk | hk
  · rw [hk]; exact fld_1 m hk h
  · rw [hk]; exact fld_2 m hk h
  · rw [fld_seem _ _ (by omega) (by omega) (by omega) (by omega)]; exact seem_ok m h
  · rw [hk]; exact fld_11 m hk h
  · rw [fld_seem _ _ (by omega) (by omega) (by omega) (by omega)]; exact seem_ok m h
  · rw [hk]; exact fld_15 m hk h
  · rw [fld_seem _ _ (by omega) (by omega) (by omega) (by omega)]; exact seem_ok m h
  · rw [fld_seem _ _ (by omega) (by omega) (by omega) (by omega)]; exact seem_ok m h
theorem fld_k (k : Int) (s : ByteArray) : (fld k s).k = k := by
  unfold fld
  repeat (split; · simp_all)
  rfl
theorem seem_k (k : Int) (s : ByteArray) : (seem k s).k = k := by
  unfold seem
  repeat (split; · simp_all)
  rfl
theorem head_rest (d : ByteArray) : headB d ++ restB d = d := ofB_inj (by rw [ofB_add, headB, restB, of_toB, of_toB, List.take_append_drop])
theorem cut_enc (m : HMsg) (r : ByteArray) (h : okM m = true) : cutB (encB m ++ r) = bodB m ∧ kindH (encB m ++ r) = m.k := by
  refine ⟨?_, ?_⟩
  · rw [cutB, szH_enc m r h, encB_list]
    simp only [List.drop_succ_cons, List.drop_zero]
    rw [← ofB_len, List.take_left, toB_of]
  · rw [kindH, encB_list, List.getD_cons_zero, wbyte_toNat]
    rcases okM_kinds h with hk | hk | hk | hk | hk | hk | hk | hk <;> rw [hk] <;> decide
def fldH (d : ByteArray) : HMsg := fld (kindH d) (cutB d)
/-- The program's test is the document's, and its message is the document's. -/
theorem fld_good {d : ByteArray} (h : okM (fldH d) = true) (hh : encB (fldH d) = headB d) : decE d = 0 ∧ decM d = fldH d := by
  have e := dec_enc (fldH d) (restB d) h
  rw [hh, head_rest] at e
  exact ⟨e.1, e.2.1⟩
theorem good_fld {d : ByteArray} (h : decE d = 0) : okM (fldH d) = true ∧ encB (fldH d) = headB d ∧ decM d = fldH d := by
  obtain ⟨ho, he⟩ := dec_ok h
  obtain ⟨hc, hk⟩ := cut_enc (decM d) (decR d) ho
  rw [he] at hc hk
  have hf : fldH d = decM d := by rw [fldH, hc, hk, fld_ok _ ho]
  have e := congrArg headB he
  have hz := szH_enc (decM d) (decR d) ho
  have hh : headB (encB (decM d) ++ decR d) = encB (decM d) := by
    rw [headB, hz, ofB_add, ← encB_size, ← ofB_len, List.take_left, toB_of]
  rw [hh] at e
  rw [hf]
  exact ⟨ho, e, rfl⟩
theorem fld_bad {d : ByteArray} (h4 : ¬ d.size < 4) (h5 : ¬ 4096 < szH d) (h6 : ¬ d.size < 4 + szH d) (h : ¬ (okM (fldH d) = true ∧ encB (fldH d) = headB d)) : decE d = 11 := by
  by_cases c : okM (seemH d) = true ∧ encB (seemH d) = headB d
  · have : decE d = 0 := by rw [decE, if_neg h4, if_neg h5, if_neg h6, if_pos c]
    obtain ⟨g1, g2, -⟩ := good_fld this
    exact absurd ⟨g1, g2⟩ h
  · rw [decE, if_neg h4, if_neg h5, if_neg h6, if_neg c]
/-- How many suites a decoded message has at most. -/
theorem nmL_length (l : List UInt8) : (nmL l).length ≤ l.length := by
  match l with
  | [] => exact Nat.le_refl 0
  | [x] => exact Nat.zero_le _
  | x :: y :: r => have := nmL_length r; simp only [nmL, List.length_cons]; omega
theorem nmL_in (l : List UInt8) : ∀ k, 0 ≤ (nmL l).getD k 0 ∧ (nmL l).getD k 0 ≤ 65535 := by
  match l with
  | [] => intro k; simp [nmL]
  | [x] => intro k; simp [nmL]
  | x :: y :: r =>
    intro k
    have h1 := x.toNat_lt
    have h2 := y.toNat_lt
    match k with
    | 0 => show 0 ≤ 256 * (x.toNat : Int) + (y.toNat : Int) ∧ 256 * (x.toNat : Int) + (y.toNat : Int) ≤ 65535; omega
    | k + 1 => exact nmL_in r k
/-- A message's shape: the bytes of random and share, the fewest and most suites and bytes of data, and whether it may ask. -/
structure Shp where
  a : Int
  b : Int
  c : Int
  d : Int
  e : Int
  f : Int
  g : Bool
def shpOf (k : Int) : Shp :=
  if k = 1 then ⟨32, 32, 1, 4, 0, 0, false⟩ else if k = 2 then ⟨32, 32, 1, 1, 0, 0, false⟩ else if k = 8 ∨ k = 13 then ⟨0, 0, 0, 0, 0, 0, false⟩
  else if k = 11 then ⟨0, 0, 0, 0, 1, 1000, false⟩ else if k = 15 then ⟨0, 0, 0, 0, 64, 64, false⟩ else if k = 20 then ⟨0, 0, 0, 0, 32, 32, false⟩
  else if k = 24 then ⟨0, 0, 0, 0, 0, 0, true⟩ else ⟨0, 0, 0, 0, 0, 0, false⟩
def isK (k : Int) : Bool := decide (k = 1) || decide (k = 2) || decide (k = 8) || decide (k = 13) || decide (k = 11) || decide (k = 15) || decide (k = 20) || decide (k = 24)
def winB (n a b : Int) : Bool := decide (a ≤ n) && decide (n ≤ b)
def shOk (m : HMsg) (s : Shp) (kn : Bool) : Bool := kn && (decide ((m.rn.size : Int) = s.a) && (decide ((m.sh.size : Int) = s.b) && (winB m.su.length s.c s.d && (suitsOk m.su && (winB m.da.size s.e s.f && (s.g || !m.ask))))))
theorem emB_size {b : ByteArray} : b = emB ↔ b.size = 0 := ⟨fun h => by rw [h]; rfl, fun h => ByteArray.ext (Array.eq_empty_of_size_eq_zero h)⟩
theorem shOk_eq (m : HMsg) : shOk m (shpOf m.k) (isK m.k) = okM m := by
  have e0 : ∀ l : List Int, l.length = 0 → suitsOk l = true := fun l h => by rw [List.length_eq_zero_iff.1 h]; rfl
  obtain ⟨k, rn, sh, su, da, ask⟩ := m
  rw [Bool.eq_iff_iff]
  unfold shOk okM shpOf isK winB
  by_cases k1 : k = 1
  · subst k1; simp [suited, emB_size]; constructor <;> intro h <;> simp_all <;> omega
  by_cases k2 : k = 2
  · subst k2; simp [suited, emB_size]; constructor <;> intro h <;> simp_all <;> omega
  by_cases k3 : k = 8
  · subst k3; simp [bare, emB_size]; have := e0 su; constructor <;> intro h <;> simp_all <;> omega
  by_cases k4 : k = 13
  · subst k4; simp [bare, emB_size]; have := e0 su; constructor <;> intro h <;> simp_all <;> omega
  by_cases k5 : k = 11
  · subst k5; simp [bare, emB_size]; have := e0 su; constructor <;> intro h <;> simp_all <;> omega
  by_cases k6 : k = 15
  · subst k6; simp [bare, emB_size]; have := e0 su; constructor <;> intro h <;> simp_all <;> omega
  by_cases k7 : k = 20
  · subst k7; simp [bare, emB_size]; have := e0 su; constructor <;> intro h <;> simp_all <;> omega
  by_cases k8 : k = 24
  · subst k8; simp [bare, emB_size]; have := e0 su; constructor <;> intro h <;> simp_all <;> omega
  simp [k1, k2, k3, k4, k5, k6, k7, k8]
end Go.Proofs.Ytjemikbnncfonaa
