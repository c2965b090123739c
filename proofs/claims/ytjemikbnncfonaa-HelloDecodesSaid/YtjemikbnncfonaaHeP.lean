/- What a message may hold, and parts of bytes: the reference's. -/
import Derived.Test.YtjemikbnncfonaaHeR
import Derived.WalkSmall
namespace Go.Proofs.Ytjemikbnncfonaa
open Go.RowKit Go.Sort
set_option maxRecDepth 100000
set_option linter.unusedSimpArgs false
set_option linter.unusedVariables false

/-- A message's cells. -/
def msC (m : HMsg) (sl : Value) : Array Value := #[.int .i64 m.k, .string m.rn, .string m.sh, sl, .string m.da, .bool m.ask]
theorem ms_cells {W : World} {b : Nat} {m : HMsg} {sl : Value} {T : TypeId} (h : W.heap[b]? = some (.cells (msC m sl) T)) : W.cell? ⟨b, 0, none⟩ = some (.int .i64 m.k) ∧ W.cell? ⟨b, 1, none⟩ = some (.string m.rn) ∧ W.cell? ⟨b, 2, none⟩ = some (.string m.sh) ∧ W.cell? ⟨b, 3, none⟩ = some sl ∧ W.cell? ⟨b, 4, none⟩ = some (.string m.da) ∧ W.cell? ⟨b, 5, none⟩ = some (.bool m.ask) := by
  refine ⟨?_, ?_, ?_, ?_, ?_, ?_⟩ <;> rw [cell_of_row W _ _ _ _ _ h] <;> rfl
theorem he_empty (a : ByteArray) : (a.toList == []) = decide (a = emB) := by
  rw [Bool.eq_iff_iff, beq_iff_eq, decide_eq_true_eq, Lib.toList_data]
  exact ⟨fun h => ByteArray.ext (Array.toList_inj.1 h), fun h => by rw [h]; rfl⟩
def blankM (m : HMsg) (h d a : Bool) : Bool := (h || bare m) && (d || decide (m.da = emB)) && (a || !m.ask)

set_option maxHeartbeats 8000000 in
theorem rblank_any (m : HMsg) (ao : Option Addr) (n c : Nat) (h d a : Bool) (w : World) (hn : m.su.length = n) (hc : (h = true ∧ d = false ∧ a = false) ∨ (h = false ∧ d = false ∧ a = false) ∨ (h = false ∧ d = true ∧ a = false) ∨ (h = false ∧ d = false ∧ a = true)) :
    Calls Try.prog 32 #[.agg (msC m (.slice ao n c)), .bool h, .bool d, .bool a] w fun e w' => e = .returned (.bool (blankM m h d a)) ∧ Below w.heap.size w w' := by
  have HB0 := Lib.hid (below_new w (.cells (msC m (.slice ao n c)) 31))
  obtain ⟨c0, c1, c2, c3, c4, c5⟩ := ms_cells (blk_new w (.cells (msC m (.slice ao n c)) 31))
  have e1 := he_empty m.rn
  have e2 := he_empty m.sh
  have e4 := he_empty m.da
  have e3 : ((n : Int) == 0) = decide (m.su.length = 0) := by rw [Bool.eq_iff_iff, beq_iff_eq, decide_eq_true_eq]; omega
  have HR : Hid (blankM m h d a = ((h || (decide (m.rn = emB) && decide (m.sh = emB) && decide (m.su.length = 0))) && (d || decide (m.da = emB)) && (a || !m.ask))) := Lib.hid rfl
  generalize blankM m h d a = r at *
  generalize decide (m.rn = emB) = x1 at *
  generalize decide (m.sh = emB) = x2 at *
  generalize decide (m.su.length = 0) = x3 at *
  generalize decide (m.da = emB) = x4 at *
  generalize m.ask = x5 at *
  clear hn
  rcases hc with ⟨rfl, rfl, rfl⟩ | ⟨rfl, rfl, rfl⟩ | ⟨rfl, rfl, rfl⟩ | ⟨rfl, rfl, rfl⟩
  · cases x4 with
    | false =>
      go_enter Try.func32, Try.ntmps32
      go_wp2_with fail
      go_ret
      exact ⟨by rw [HR.out]; first | rfl | (simp; done), HB0.out⟩
    | true =>
      cases x5 with
      | false =>
        go_enter Try.func32, Try.ntmps32
        go_wp2_with fail
        go_ret
        exact ⟨by rw [HR.out]; first | rfl | (simp; done), HB0.out⟩
      | true =>
        go_enter Try.func32, Try.ntmps32
        go_wp2_with fail
        go_ret
        exact ⟨by rw [HR.out]; first | rfl | (simp; done), HB0.out⟩
  · cases x1 with
    | false =>
      go_enter Try.func32, Try.ntmps32
      go_wp2_with fail
      go_ret
      exact ⟨by rw [HR.out]; first | rfl | (simp; done), HB0.out⟩
    | true =>
      cases x2 with
      | false =>
        go_enter Try.func32, Try.ntmps32
        go_wp2_with fail
        go_ret
        exact ⟨by rw [HR.out]; first | rfl | (simp; done), HB0.out⟩
      | true =>
        cases x3 with
        | false =>
          go_enter Try.func32, Try.ntmps32
          go_wp2_with fail
          go_ret
          exact ⟨by rw [HR.out]; first | rfl | (simp; done), HB0.out⟩
        | true =>
          cases x4 with
          | false =>
            go_enter Try.func32, Try.ntmps32
            go_wp2_with fail
            go_ret
            exact ⟨by rw [HR.out]; first | rfl | (simp; done), HB0.out⟩
          | true =>
            cases x5 with
            | false =>
              go_enter Try.func32, Try.ntmps32
              go_wp2_with fail
              go_ret
              exact ⟨by rw [HR.out]; first | rfl | (simp; done), HB0.out⟩
            | true =>
              go_enter Try.func32, Try.ntmps32
              go_wp2_with fail
              go_ret
              exact ⟨by rw [HR.out]; first | rfl | (simp; done), HB0.out⟩
  · cases x1 with
    | false =>
      go_enter Try.func32, Try.ntmps32
      go_wp2_with fail
      go_ret
      exact ⟨by rw [HR.out]; first | rfl | (simp; done), HB0.out⟩
    | true =>
      cases x2 with
      | false =>
        go_enter Try.func32, Try.ntmps32
        go_wp2_with fail
        go_ret
        exact ⟨by rw [HR.out]; first | rfl | (simp; done), HB0.out⟩
      | true =>
        cases x3 with
        | false =>
          go_enter Try.func32, Try.ntmps32
          go_wp2_with fail
          go_ret
          exact ⟨by rw [HR.out]; first | rfl | (simp; done), HB0.out⟩
        | true =>
          cases x5 with
          | false =>
            go_enter Try.func32, Try.ntmps32
            go_wp2_with fail
            go_ret
            exact ⟨by rw [HR.out]; first | rfl | (simp; done), HB0.out⟩
          | true =>
            go_enter Try.func32, Try.ntmps32
            go_wp2_with fail
            go_ret
            exact ⟨by rw [HR.out]; first | rfl | (simp; done), HB0.out⟩
  · cases x1 with
    | false =>
      go_enter Try.func32, Try.ntmps32
      go_wp2_with fail
      go_ret
      exact ⟨by rw [HR.out]; first | rfl | (simp; done), HB0.out⟩
    | true =>
      cases x2 with
      | false =>
        go_enter Try.func32, Try.ntmps32
        go_wp2_with fail
        go_ret
        exact ⟨by rw [HR.out]; first | rfl | (simp; done), HB0.out⟩
      | true =>
        cases x3 with
        | false =>
          go_enter Try.func32, Try.ntmps32
          go_wp2_with fail
          go_ret
          exact ⟨by rw [HR.out]; first | rfl | (simp; done), HB0.out⟩
        | true =>
          cases x4 with
          | false =>
            go_enter Try.func32, Try.ntmps32
            go_wp2_with fail
            go_ret
            exact ⟨by rw [HR.out]; first | rfl | (simp; done), HB0.out⟩
          | true =>
            go_enter Try.func32, Try.ntmps32
            go_wp2_with fail
            go_ret
            exact ⟨by rw [HR.out]; first | rfl | (simp; done), HB0.out⟩

theorem part_text (s : ByteArray) (a n : Nat) (h : a ≤ s.size) : s.extract a (min s.size (a + n)) = partB s a n := by
  rw [partB, if_neg (by omega), Lib.extract_eq]
  show toB _ = toB _
  congr 1
  by_cases hq : s.size ≤ a + n
  · rw [Nat.min_eq_left hq, List.take_of_length_le (by rw [List.length_drop, ofB_len]; omega), List.take_of_length_le (by rw [List.length_drop, ofB_len]; omega)]
  · rw [Nat.min_eq_right (by omega), show a + n - a = n by omega]
theorem part_size (s : ByteArray) (a n : Nat) : (partB s a n).size = if s.size < a then 0 else min n (s.size - a) := by
  rw [partB]
  split
  · rfl
  · rw [toB_size, List.length_take, List.length_drop, ofB_len]
set_option maxHeartbeats 2000000 in
theorem rpart_any (s : ByteArray) (a n : Nat) (w : World) (hs : s.size ≤ 1000000) (ha : a ≤ 1000000) (hn : n ≤ 1000000) :
    Calls Try.prog 22 #[.string s, .int .i64 (a : Int), .int .i64 (n : Int)] w fun e w' => e = .returned (.string (partB s a n)) ∧ Below w.heap.size w w' := by
  have A : s.size < a → partB s a n = ⟨#[]⟩ := fun h => by rw [partB, if_pos h]; rfl
  have B : a ≤ s.size → (a : Int) + (n : Int) < (s.size : Int) → s.extract a ((a : Int) + (n : Int)).toNat = partB s a n := fun h1 h2 => by
    rw [← part_text s a n h1, show ((a : Int) + (n : Int)).toNat = min s.size (a + n) by omega]
  have C : a ≤ s.size → (s.size : Int) ≤ (a : Int) + (n : Int) → s.extract a s.size = partB s a n := fun h1 h2 => by
    rw [← part_text s a n h1, show min s.size (a + n) = s.size by omega]
  have HA := Lib.hid A
  have HB := Lib.hid B
  have HC := Lib.hid C
  clear A B C
  generalize partB s a n = t at *
  go_enter Try.func22, Try.ntmps22
  go_wp2_with fail
  all_goals go_ret
  all_goals first
    | exact ⟨by rw [HA.out (by omega)]; rfl, Below.refl _ _⟩
    | exact ⟨by rw [← HB.out (by omega) (by omega)]; rfl, Below.refl _ _⟩
    | exact ⟨by rw [← HC.out (by omega) (by omega)]; rfl, Below.refl _ _⟩
theorem he_get (s : ByteArray) (j : Nat) (h : j < s.size) : (ofB s).getD j 0 = s[j] := by
  have h' : j < s.data.toList.length := by rw [← Lib.size_eq]; exact h
  rw [List.getD_eq_getElem?_getD, List.getElem?_eq_getElem h']
  rfl
set_option maxHeartbeats 2000000 in
theorem rtwo_any (s : ByteArray) (a : Nat) (w : World) (hs : s.size ≤ 1000000) (ha : a ≤ 1000000) :
    Calls Try.prog 23 #[.string s, .int .i64 (a : Int)] w fun e w' => e = .returned (.int .i64 (twoB s a)) ∧ Below w.heap.size w w' := by
  have CP := Lib.hid (fun W => rpart_any s a 2 W hs ha (by decide))
  have hz := part_size s a 2
  by_cases h : s.size < a + 2
  · have d1 : decide (((partB s a 2).size : Int) < 2) = true := by simp; rw [hz]; split <;> omega
    have he : twoB s a = 0 := by rw [twoB, if_pos h]
    rw [he]
    generalize partB s a 2 = t at *
    clear h hz
    go_enter Try.func23, Try.ntmps23
    go_wp2_with fail
    refine (CP.out w).mono ?_
    rintro e W1 ⟨rfl, hb1⟩
    go_wp2_with fail
    go_ret
    exact ⟨rfl, hb1⟩
  · rw [if_neg (by omega)] at hz
    have hz2 : (partB s a 2).size = 2 := by omega
    have d1 : decide (((partB s a 2).size : Int) < 2) = false := by rw [hz2]; decide
    have g : ∀ j, j < 2 → (ofB (partB s a 2)).getD j 0 = (ofB s).getD (a + j) 0 := fun j hj => by
      rw [partB, if_neg (by omega), of_toB]
      simp only [List.getD_eq_getElem?_getD, List.getElem?_take, if_pos hj, List.getElem?_drop]
    have gx : ∀ h : 0 < (partB s a 2).size, ((partB s a 2)[0]'h).toNat = ((ofB s).getD (a + 0) 0).toNat := fun h => by rw [← g 0 (by decide), he_get _ 0 h]
    have gy : ∀ h : 1 < (partB s a 2).size, ((partB s a 2)[1]'h).toNat = ((ofB s).getD (a + 1) 0).toNat := fun h => by rw [← g 1 (by decide), he_get _ 1 h]
    have HE : Hid (twoB s a = 256 * (((ofB s).getD (a + 0) 0).toNat : Int) + (((ofB s).getD (a + 1) 0).toNat : Int)) := Lib.hid (by rw [twoB, if_neg h]; rfl)
    have l0 := ((ofB s).getD (a + 0) 0).toNat_lt
    have l1 := ((ofB s).getD (a + 1) 0).toNat_lt
    generalize ((ofB s).getD (a + 0) 0).toNat = x at *
    generalize ((ofB s).getD (a + 1) 0).toNat = y at *
    generalize partB s a 2 = t at *
    have hzi : (t.size : Int) = 2 := by omega
    have GX := Lib.hid gx
    have GY := Lib.hid gy
    clear h hz g hz2 gx gy
    go_enter Try.func23, Try.ntmps23
    go_wp2_with fail
    refine (CP.out w).mono ?_
    rintro e W1 ⟨rfl, hb1⟩
    clear CP
    go_wp2_with (go_quiet (fail))
    go_ret
    refine ⟨?_, below_drewN hb1 _⟩
    rw [HE.out]
    show Ending.returned (.int .i64 _) = _
    simp only [GX.out, GY.out]
    have HL0 := l0; have HL1 := l1
    congr 2
    unfold wrap64; omega

end Go.Proofs.Ytjemikbnncfonaa
