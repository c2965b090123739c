/- The chapter's examples over any calls. -/
import Derived.Test.YtimokmhgpigliaaDrCalls
import Derived.Test.YtimokmhgpigliaaDrNum
import Derived.Test.YtimokmhgpigliaaDrOid
namespace Go.Proofs.Ytimokmhgpigliaa
open Go.RowKit Go.Sort
set_option maxRecDepth 100000
set_option linter.unusedSimpArgs false
set_option linter.unusedVariables false

theorem tryWr : wrX 48 ⟨#[]⟩ = ⟨#[48, 0]⟩ ∧ wrE 48 ⟨#[]⟩ = 0 := by decide
theorem tryOid : oidX [1, 3, 101, 112] = ⟨#[6, 3, 43, 101, 112]⟩ ∧ oidErr [1, 3, 101, 112] = 0 := by decide
theorem tryInt : wrX 2 (intB (-129)) = ⟨#[2, 2, 255, 127]⟩ := by decide
theorem tryRd : rdTag ⟨#[48, 129, 5]⟩ = 0 ∧ rdBody ⟨#[48, 129, 5]⟩ = ⟨#[]⟩ ∧ rdRest ⟨#[48, 129, 5]⟩ = ⟨#[]⟩ ∧ rdErr ⟨#[48, 129, 5]⟩ = 11 := by decide
theorem try_bounds (k : Nat) : (-9223372036854775808 : Int) ≤ [(1 : Int), 3, 101, 112].getD k 0 ∧ [(1 : Int), 3, 101, 112].getD k 0 ≤ 9223372036854775807 := by
  match k with
  | 0 => decide
  | 1 => decide
  | 2 => decide
  | 3 => decide
  | k + 4 => simp
set_option maxHeartbeats 4000000 in
theorem drwake_of (C : DrCalls) (w : World) :
    Calls Try.prog 14 #[] w fun e w' => e = .returned (.bool true) ∧ Below w.heap.size w w' := by
  have hb := Below.refl w.heap.size w
  have C1 := Lib.hid (fun W => C.wr 48 ⟨#[]⟩ W (by decide) (by decide) (by decide))
  rw [tryWr.1, tryWr.2] at C1
  have C2 := Lib.hid (fun ao (W : World) (hI : IntsAt W ao [1, 3, 101, 112]) => C.oid ao 4 4 [1, 3, 101, 112] W rfl (by decide) (Nat.le_refl _) try_bounds hI)
  rw [tryOid.1, tryOid.2] at C2
  have C3 := Lib.hid (fun W => C.rd ⟨#[48, 129, 5]⟩ W (by decide))
  rw [tryRd.1, tryRd.2.1, tryRd.2.2.1, tryRd.2.2.2] at C3
  have C4 := Lib.hid (fun W => C.int (-129) W (by decide) (by decide))
  rw [tryInt] at C4
  go_enter Try.func14, Try.ntmps14
  go_wp2_with fail
  refine (C1.out w).mono ?_
  rintro e W1 ⟨rfl, bk⟩
  replace hb := hb.trans (bk.mono hb.size)
  clear bk
  go_wp2_with fail
  have HIN : IntsAt (W1.alloc (.cells #[.int .i64 1, .int .i64 3, .int .i64 101, .int .i64 112] 3)) (some ⟨W1.heap.size, 0, none⟩) [1, 3, 101, 112] := fun j hj => ⟨W1.heap.size, 0, rfl, by
    rw [Nat.zero_add, cell_of_row _ W1.heap.size j _ 3 (0, 0) (blk_new W1 _)]
    match j, hj with
    | 0, _ => rfl
    | 1, _ => rfl
    | 2, _ => rfl
    | 3, _ => rfl
    | j + 4, hj => simp at hj; omega⟩
  have bn := below_new W1 (.cells #[.int .i64 1, .int .i64 3, .int .i64 101, .int .i64 112] 3)
  refine (C2.out _ _ HIN).mono ?_
  rintro e W2 ⟨rfl, bk⟩
  replace hb := (hb.trans (bn.mono hb.size)).trans (bk.mono (Nat.le_trans hb.size bn.size))
  clear bk bn HIN
  go_wp2_with fail
  refine (C3.out W2).mono ?_
  rintro e W3 ⟨rfl, bk⟩
  replace hb := hb.trans (bk.mono hb.size)
  clear bk
  go_wp2_with fail
  refine (C4.out W3).mono ?_
  rintro e W4 ⟨rfl, bk⟩
  replace hb := hb.trans (bk.mono hb.size)
  clear bk
  go_wp2_with fail
  go_ret
  exact ⟨rfl, hb⟩
end Go.Proofs.Ytimokmhgpigliaa
