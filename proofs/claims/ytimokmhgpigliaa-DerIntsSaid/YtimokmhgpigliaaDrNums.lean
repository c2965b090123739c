/- Slices of numbers as calls are handed them, and whether two are the same. -/
import Derived.Test.YtimokmhgpigliaaConvS
import Derived.Test.YtimokmhgpigliaaToldG
namespace Go.Proofs.Ytimokmhgpigliaa
open Go.RowKit Go.Sort
set_option maxRecDepth 100000
set_option linter.unusedSimpArgs false
set_option linter.unusedVariables false

/-- A slice's numbers. -/
def IntsAt (W : World) (ao : Option Addr) (zs : List Int) : Prop := ∀ j, j < zs.length → ∃ g off, ao = some ⟨g, off, none⟩ ∧ W.cell? ⟨g, off + j, none⟩ = some (.int .i64 (zs.getD j 0))
theorem IntsAt.step {W W' : World} {ao : Option Addr} {zs : List Int} (h : IntsAt W ao zs) (hb : Below W.heap.size W W') : IntsAt W' ao zs := fun j hj => by
  obtain ⟨g, off, ha, hc⟩ := h j hj
  exact ⟨g, off, ha, (hb.cell (block_lt_of_cell hc)).trans hc⟩
theorem IntsAt.nil (W : World) (ao : Option Addr) : IntsAt W ao [] := fun j hj => by cases hj
def iCells (zs : List Int) : List Value := zs.map fun z => .int .i64 z
theorem iCells_length (zs : List Int) : (iCells zs).length = zs.length := List.length_map _
theorem iCells_append (a b : List Int) : iCells (a ++ b) = iCells a ++ iCells b := List.map_append
theorem iCells_at (zs : List Int) (j : Nat) (h : j < zs.length) : (iCells zs)[j]? = some (.int .i64 (zs.getD j 0)) := by
  simp [iCells, List.getElem?_eq_getElem h, List.getD_eq_getElem?_getD]
theorem IntsAt.own {W : World} {base n c : Nat} {ao : Option Addr} {zs : List Int} (h : Own W base (.slice ao n c) (iCells zs)) (hn : zs.length = n) : IntsAt W ao zs := fun j hj => by
  obtain ⟨g, cp, e, ho, _⟩ := h.some (by rw [iCells_length]; omega)
  cases e
  exact ⟨g, 0, rfl, by rw [Nat.zero_add]; exact ho.cells j _ (iCells_at zs j hj)⟩
theorem told_q {P : Program} {w : World} {v : Value} {r : Result Next} (h : sQuiet P w v r) : toldQuiet P w (Told.val v) r := by
  cases r with
  | ok n w' =>
    cases n <;> simp only [sQuiet] at h <;> simp only [toldQuiet]
    case value u => obtain ⟨rfl, rfl⟩ := h; exact ⟨Below.refl _ _, rfl⟩
    case enter f args =>
      obtain ⟨rfl, hc⟩ := h
      exact ⟨rfl, hc.mono fun e w'' ⟨he, hb⟩ => ⟨v, he, rfl, hb⟩⟩
  | halt x w' => simp only [sQuiet] at h

set_option maxHeartbeats 2000000 in
theorem nums_same (a b : Option Addr) (n c d : Nat) (zs : List Int) (w : World) (hn : zs.length = n) (hm : n ≤ 1000000) (ha : IntsAt w a zs) (hb : IntsAt w b zs) :
    Calls Try.prog 29 #[.slice a n c, .slice b n d] w fun e w' => e = .returned (.bool true) ∧ Below w.heap.size w w' := by
  have hd0 : ((n : Int) != (n : Int)) = false := by simp
  have HA := Lib.hid ha
  have HB := Lib.hid hb
  have HN := Lib.hid hn
  have hb0 := Below.refl w.heap.size w
  clear ha hb hn
  go_enter Try.func29, Try.ntmps29
  go_wp2_with fail
  go_loopw [5] (fun i wr => ∃ k : Nat, k ≤ n ∧ i = .int .i64 (k : Int) ∧ Below w.heap.size w wr) (fun i _ => n - (intOf i).toNat)
  case atStart => exact ⟨0, by omega, rfl, hb0⟩
  case round =>
    obtain ⟨k, hk, rfl, hb⟩ := hrel
    by_cases hlt : k < n
    · have hd : decide ((k : Int) < (n : Int)) = true := by simp; omega
      have hkn : (k : Int) < (n : Int) := by omega
      obtain ⟨g, off, rfl, hcell⟩ := (HA.out.step hb) k (by rw [HN.out]; exact hlt)
      obtain ⟨g2, off2, rfl, hcell2⟩ := (HB.out.step hb) k (by rw [HN.out]; exact hlt)
      generalize zs.getD k 0 = x at *
      have hx : (x != x) = false := by simp
      go_wp2_with fail
      refine wp_region_told 8 26 [(Told.val (.slice (some ⟨g, off, none⟩) n c), [0]), (Told.val (.int .i64 (k : Int)), [5]), (Told.val (.pointer (some ⟨g, off + k, none⟩)), [17, 18]), (Told.val (.int .i64 x), [19]), (Told.val (.slice (some ⟨g2, off2, none⟩) n d), [1]), (Told.val (.int .i64 (k : Int)), [5]), (Told.val (.pointer (some ⟨g2, off2 + k, none⟩)), [21, 22]), (Told.val (.int .i64 x), [23])]
        (by kernel_rfl) (by kernel_rfl) rfl ?_ ?_
      · simp only [List.take_succ_cons, List.take_zero, toldObl, and_true]
        refine ⟨?_, ?_, ?_, ?_, ?_, ?_, ?_, ?_⟩
        · intro a w hb h
          have e0 : a.tmps.getD 0 undef = .slice (some ⟨g, off, none⟩) n c := h 0 (by simp)
          simp only [Array.getD_eq_getD_getElem?] at e0
          refine told_q ?_
          simp [go_sem, e0, sQuiet]
        · intro a w hb h
          have e0 : a.tmps.getD 5 undef = .int .i64 (k : Int) := h 5 (by simp)
          simp only [Array.getD_eq_getD_getElem?] at e0
          refine told_q ?_
          simp [go_sem, e0, sQuiet]
        · intro a w hb h
          have e0 : a.tmps.getD 17 undef = .slice (some ⟨g, off, none⟩) n c := h 17 (by simp)
          have e1 : a.tmps.getD 18 undef = .int .i64 (k : Int) := h 18 (by simp)
          simp only [Array.getD_eq_getD_getElem?] at e0 e1
          refine told_q ?_
          simp [go_sem, e0, e1, sQuiet, hkn, hlt]
        · intro a w hb h
          have e0 : a.tmps.getD 19 undef = .pointer (some ⟨g, off + k, none⟩) := h 19 (by simp)
          simp only [Array.getD_eq_getD_getElem?] at e0
          have hc := (hb.cell (block_lt_of_cell hcell)).trans hcell
          refine told_q ?_
          simp [go_sem, e0, sQuiet, hc]
        · intro a w hb h
          have e0 : a.tmps.getD 1 undef = .slice (some ⟨g2, off2, none⟩) n d := h 1 (by simp)
          simp only [Array.getD_eq_getD_getElem?] at e0
          refine told_q ?_
          simp [go_sem, e0, sQuiet]
        · intro a w hb h
          have e0 : a.tmps.getD 5 undef = .int .i64 (k : Int) := h 5 (by simp)
          simp only [Array.getD_eq_getD_getElem?] at e0
          refine told_q ?_
          simp [go_sem, e0, sQuiet]
        · intro a w hb h
          have e0 : a.tmps.getD 21 undef = .slice (some ⟨g2, off2, none⟩) n d := h 21 (by simp)
          have e1 : a.tmps.getD 22 undef = .int .i64 (k : Int) := h 22 (by simp)
          simp only [Array.getD_eq_getD_getElem?] at e0 e1
          refine told_q ?_
          simp [go_sem, e0, e1, sQuiet, hkn, hlt]
        · intro a w hb h
          have e0 : a.tmps.getD 23 undef = .pointer (some ⟨g2, off2 + k, none⟩) := h 23 (by simp)
          simp only [Array.getD_eq_getD_getElem?] at e0
          have hc := (hb.cell (block_lt_of_cell hcell2)).trans hcell2
          refine told_q ?_
          simp [go_sem, e0, sQuiet, hc]
      simp only [List.take_succ_cons, List.take_zero, List.drop_succ_cons, List.drop_zero, toldEnd, Act.put, List.setIfInBounds_toArray, List.set_cons_succ, List.set_cons_zero]
      rintro X bk v17 q17 v18 q18 v19 q19 v20 q20 v21 q21 v22 q22 v23 q23 v24 q24
      obtain rfl := q17.symm
      obtain rfl := q18.symm
      obtain rfl := q19.symm
      obtain rfl := q20.symm
      obtain rfl := q21.symm
      obtain rfl := q22.symm
      obtain rfl := q23.symm
      obtain rfl := q24.symm
      clear q17 q18 q19 q20 q21 q22 q23 q24 hcell hcell2
      replace hb := hb.trans (bk.mono hb.size)
      clear bk
      go_wp2_with fail
      go_roundw
      case rel => exact ⟨k + 1, by omega, by go_num, hb⟩
      case measure => simp [intOf]; omega
    · have hd : decide ((k : Int) < (n : Int)) = false := by simp; omega
      go_wp2_with fail
      go_ret
      exact ⟨rfl, hb⟩
end Go.Proofs.Ytimokmhgpigliaa
