/- The reference's carried: the carries of ten digits in memory. -/
import Derived.Test.YtbbpgplfdodpmaaPolyMul
import Derived.Test.YtbbpgplfdodpmaaTail
import Derived.Laws.BitsAllLaws
namespace Go.Proofs.Ytbbpgplfdodpmaa
open Go.RowKit Go.Sort
set_option maxRecDepth 100000
set_option linter.unusedSimpArgs false
set_option linter.unusedVariables false

/-- Integers as cells of a row. -/
def ic (v : List Int) : Array Value := (v.map (Value.int .i64)).toArray
theorem ic_get (v : List Int) (j : Nat) (h : j < v.length) : (ic v)[j]? = some (.int .i64 (v.getD j 0)) := by simp [ic, h]
theorem ic_set (v : List Int) (j : Nat) (x : Int) : (ic v).setIfInBounds j (.int .i64 x) = ic (v.set j x) := by simp [ic, List.map_set]
theorem ic_cell {W : World} {D : Nat} {t : TypeId} {v : List Int} (h : W.heap[D]? = some (.cells (ic v) t)) (j : Nat) (hj : j < v.length) : W.cell? ⟨D, j, none⟩ = some (.int .i64 (v.getD j 0)) := by rw [cell_of_row W _ _ _ _ _ h]; exact ic_get v j hj
theorem and_8191 (y : Int) (h0 : 0 ≤ y) (h1 : y ≤ 137438953472) : bits .and .i64 y 8191 = y % 8192 := by
  have h13 : (BitVec.ofInt 64 8191).toNat = 2 ^ 13 - 1 := by decide
  have key : (BitVec.ofInt 64 y &&& BitVec.ofInt 64 8191).toNat = (y % ((2 ^ 64 : Nat) : Int)).toNat % 2 ^ 13 := by
    rw [BitVec.toNat_and, BitVec.toNat_ofInt, h13, Nat.and_two_pow_sub_one_eq_mod]
  show IntKind.i64.wrap ((BitVec.ofInt 64 y &&& BitVec.ofInt 64 8191).toNat : Nat) = y % 8192
  rw [key, IntKind.wrap_i64]
  omega
def carryN (v : List Int) : Nat → List Int
  | 0 => v
  | k + 1 => carry1 (carryN v k)
theorem carryN_length (v : List Int) (k : Nat) : (carryN v k).length = v.length := by
  induction k with
  | zero => rfl
  | succ k ih => rw [carryN, carry1_length, ih]
theorem carry1_in (v : List Int) (h : digitsIn 68719476736 v) : digitsIn 68719476736 (carry1 v) := by
  have b := carryGo_bound v 68719476736 8400000 0 (by omega) h (by omega) (by omega)
  have d := carryGo_digits v 0
  by_cases hl : 0 < (carryGo v 0).1.length
  · obtain ⟨x0, x1⟩ := getD_in d 0 hl
    exact digitsIn_set d (by omega) _ _ (by omega) (by omega)
  · have : (carryGo v 0).1 = [] := List.eq_nil_of_length_eq_zero (by omega)
    intro x hx; rw [carry1, this] at hx; simp at hx
theorem carryN_in (v : List Int) (h : digitsIn 68719476736 v) (k : Nat) : digitsIn 68719476736 (carryN v k) := by
  induction k with
  | zero => exact h
  | succ k ih => exact carry1_in _ ih
/-- The digits in the midst of a round. -/
def midL (u : List Int) (i : Nat) : List Int := (carryGo (u.take i) 0).1 ++ u.drop i
theorem midL_length (u : List Int) (i : Nat) (h : i ≤ u.length) : (midL u i).length = u.length := by simp [midL, carryGo_length]; omega
theorem midL_get (u : List Int) (i : Nat) (h : i < u.length) : (midL u i).getD i 0 = u.getD i 0 := by
  have hl : (carryGo (u.take i) 0).1.length = i := by simp [carryGo_length]; omega
  rw [midL, List.getD_eq_getElem?_getD, List.getElem?_append_right (by omega), hl, Nat.sub_self, List.getElem?_drop, Nat.add_zero, List.getD_eq_getElem?_getD]
theorem midL_set (u : List Int) (i : Nat) (h : i < u.length) (z : Int) : (midL u i).set i z = (carryGo (u.take i) 0).1 ++ z :: u.drop (i + 1) := by
  have hl : (carryGo (u.take i) 0).1.length = i := by simp [carryGo_length]; omega
  rw [midL, List.set_append, if_neg (by omega), hl, Nat.sub_self, List.drop_eq_getElem_cons h, List.set_cons_zero]
theorem take_go (u : List Int) (i : Nat) (h : i < u.length) : carryGo (u.take (i + 1)) 0 = ((carryGo (u.take i) 0).1 ++ [(u.getD i 0 + (carryGo (u.take i) 0).2) % 8192], (u.getD i 0 + (carryGo (u.take i) 0).2) / 8192) := by
  have e : u.getD i 0 = u[i] := by simp [h]
  rw [List.take_succ_eq_append_getElem h, carryGo_snoc, e]
theorem midL_succ (u : List Int) (i : Nat) (h : i < u.length) : (midL u i).set i ((u.getD i 0 + (carryGo (u.take i) 0).2) % 8192) = midL u (i + 1) := by
  rw [midL_set u i h, midL, take_go u i h]; simp
theorem go_c (u : List Int) (i : Nat) (h : digitsIn 68719476736 u) : 0 ≤ (carryGo (u.take i) 0).2 ∧ (carryGo (u.take i) 0).2 ≤ 8400000 :=
  carryGo_bound (u.take i) 68719476736 8400000 0 (by omega) (fun x hx => h x (List.mem_of_mem_take hx)) (by omega) (by omega)

set_option maxHeartbeats 4000000 in
theorem carried_any (D : Nat) (v : List Int) (w : World) (hD : w.heap[D]? = some (.cells (ic v) 3)) (hl : v.length = 10) (hv : digitsIn 68719476736 v) :
    Calls Try.prog 18 #[.slice (some ⟨D, 0, none⟩) 10 10] w fun e w' => e = .returned (.slice (some ⟨D, 0, none⟩) 10 10) ∧ w'.heap[D]? = some (.cells (ic (carry3 v)) 3) ∧ But D w w' := by
  have HD := Lib.hid hD; have HV := Lib.hid hv; have HLv := Lib.hid hl
  clear hD hv hl
  go_enter Try.func18, Try.ntmps18
  go_wp2_with fail
  go_loopw [3] (fun kv wr => ∃ k : Nat, k ≤ 3 ∧ kv = .int .i64 k ∧ wr.heap[D]? = some (.cells (ic (carryN v k)) 3) ∧ But D w wr) (fun kv _ => 3 - (intOf kv).toNat)
  case atStart => exact ⟨0, by omega, rfl, HD.out, But.refl _ _⟩
  case round =>
    clear HD
    obtain ⟨k, hk, rfl, hd, hbut⟩ := hrel
    have HD := Lib.hid hd
    clear hd
    by_cases hk3 : k < 3
    · have hdk : decide ((k : Int) < 3) = true := by simp; omega
      have HU := Lib.hid (carryN_in v HV.out k)
      have HUl := Lib.hid (show (carryN v k).length = 10 from by rw [carryN_length, HLv.out])
      have HN : Hid (carryN v (k + 1) = carry1 (carryN v k)) := Lib.hid rfl
      generalize carryN v k = u at *
      go_wp2_with fail
      go_loopw [4, 5] (fun cv iv wr => ∃ i : Nat, i ≤ 10 ∧ iv = .int .i64 i ∧ cv = .int .i64 (carryGo (u.take i) 0).2 ∧ wr.heap[D]? = some (.cells (ic (midL u i)) 3) ∧ But D w wr) (fun _ iv _ => 10 - (intOf iv).toNat)
      case atStart => exact ⟨0, by omega, rfl, rfl, HD.out, hbut⟩
      case round =>
        clear HD hbut
        obtain ⟨i, hi, rfl, rfl, hd, hbut⟩ := hrel
        have HD := Lib.hid hd
        clear hd
        by_cases hi10 : i < 10
        · have hdi : decide ((i : Int) < 10) = true := by simp; omega
          obtain ⟨c0, c1⟩ := go_c u i HU.out
          obtain ⟨x0, x1⟩ := getD_in HU.out i (by rw [HUl.out]; exact hi10)
          have HS := Lib.hid (midL_succ u i (by rw [HUl.out]; exact hi10))
          have HT := Lib.hid (congrArg Prod.snd (take_go u i (by rw [HUl.out]; exact hi10)))
          have HML := Lib.hid (show (midL u i).length = 10 from by rw [midL_length u i (by rw [HUl.out]; omega), HUl.out])
          have cx := ic_cell HD.out i (by rw [HML.out]; exact hi10)
          rw [midL_get u i (by rw [HUl.out]; exact hi10)] at cx
          have fx := frozen_of_row wr D i _ _ HD.out
          generalize u.getD i 0 = x at *
          generalize (carryGo (u.take i) 0).2 = c at *
          have ha := and_8191 (x + c) (by omega) (by omega)
          have r1 := heap_setCell_same wr D i _ _ (.int .i64 (x + c)) HD.out
          rw [ic_set] at r1
          have cy := ic_cell r1 i (by rw [List.length_set, HML.out]; exact hi10)
          have e1 : ((midL u i).set i (x + c)).getD i 0 = x + c := by simp [List.getD_eq_getElem?_getD, HML.out, hi10]
          rw [e1] at cy
          have fy := frozen_of_row _ D i _ _ r1
          have r2 := heap_setCell_same _ D i _ _ (.int .i64 ((x + c) % 8192)) r1
          rw [ic_set, List.set_set, HS.out] at r2
          have HR2 := Lib.hid r2
          have hbut2 := (hbut.trans (But.setCell D wr ⟨D, i, none⟩ (.int .i64 (x + c)) rfl)).trans (But.setCell D _ ⟨D, i, none⟩ (.int .i64 ((x + c) % 8192)) rfl)
          clear r1 r2 e1 HS
          go_wp2_with fail
          go_roundw
          case rel => exact ⟨i + 1, by omega, by go_num, by rw [HT.out], HR2.out, hbut2⟩
          case measure => simp [intOf]; omega
        · have hdi : decide ((i : Int) < 10) = false := by simp; omega
          obtain rfl : i = 10 := by omega
          have HM : Hid (midL u 10 = (carryGo u 0).1) := Lib.hid (by rw [midL, List.take_of_length_le (by rw [HUl.out]; omega), List.drop_of_length_le (by rw [HUl.out]; omega), List.append_nil])
          have hc := go_c u 10 HU.out
          rw [HM.out] at HD
          have ht : u.take 10 = u := List.take_of_length_le (by rw [HUl.out]; omega)
          rw [ht] at hc
          rw [ht]
          have HC1 : Hid (carry1 u = (carryGo u 0).1.set 0 ((carryGo u 0).1.getD 0 0 + 5 * (carryGo u 0).2)) := Lib.hid rfl
          have hl1 : (carryGo u 0).1.length = 10 := by rw [carryGo_length, HUl.out]
          have hx := getD_in (carryGo_digits u 0) 0 (by omega)
          have cx := ic_cell HD.out 0 (by omega)
          have fx := frozen_of_row wr D 0 _ _ HD.out
          have HX := Lib.hid hx
          generalize (carryGo u 0).1.getD 0 0 = x at *
          generalize (carryGo u 0).2 = c at *
          obtain ⟨x0, x1⟩ := HX.out
          obtain ⟨c0, c1⟩ := hc
          have r1 := heap_setCell_same wr D 0 _ _ (.int .i64 (x + 5 * c)) HD.out
          rw [ic_set, ← HC1.out, ← HN.out] at r1
          have HR := Lib.hid r1
          have hbut2 := hbut.trans (But.setCell D wr ⟨D, 0, none⟩ (.int .i64 (x + 5 * c)) rfl)
          clear r1 HC1 HM hl1 ht
          go_wp2_with fail
          go_roundw
          case rel => exact ⟨k + 1, by omega, by go_num, HR.out, hbut2⟩
          case measure => simp [intOf]; omega
    · have hdk : decide ((k : Int) < 3) = false := by simp; omega
      obtain rfl : k = 3 := by omega
      go_wp2_with fail
      go_ret
      exact ⟨rfl, HD.out, hbut⟩
end Go.Proofs.Ytbbpgplfdodpmaa
