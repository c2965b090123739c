/- DerOid over whatever the program's calls are. -/
import Derived.Test.YtimokmhgpigliaaDrCalls
import Derived.Test.YtimokmhgpigliaaDrROid
import Derived.Test.YtimokmhgpigliaaDrOidR
import Derived.Test.YtimokmhgpigliaaDrNum
namespace Go.Proofs.Ytimokmhgpigliaa
open Go.RowKit Go.Sort
set_option maxRecDepth 100000
set_option linter.unusedSimpArgs false
set_option linter.unusedVariables false

set_option maxHeartbeats 16000000 in
theorem derOid_of (C : DrCalls) (HA0 : ∀ W : World, Calls Try.prog 14 #[] W fun e w' => e = .returned (.bool true) ∧ Below W.heap.size W w') (ao : Option Addr) (ln cp : Nat) (zs : List Int) (hl : zs.length = ln) (hz : ∀ k, -9223372036854775808 ≤ zs.getD k 0 ∧ zs.getD k 0 ≤ 9223372036854775807) (hlc : ln ≤ cp) (w : World) (hi : IntsAt w ao zs) :
    Calls Try.prog 12 #[.slice ao ln cp] w fun e w' => e = .returned (.bool true) ∧ Below w.heap.size w w' := by
  have HA := Lib.hid HA0
  have hb := Below.refl w.heap.size w
  clear HA0
  by_cases h : ln > 50
  · have d1 : decide (50 < (ln : Int)) = true := by simp; omega
    go_enter Try.func12, Try.ntmps12
    go_wp2_with fail
    refine (HA.out w).mono ?_
    rintro e W1 ⟨rfl, bk⟩
    replace hb := hb.trans (bk.mono hb.size)
    clear bk
    go_wp2_with fail
    go_ret
    exact ⟨rfl, hb⟩
  have d1 : decide (50 < (ln : Int)) = false := by simp; omega
  have C1 := Lib.hid (fun W hI => C.oid ao ln cp zs W hl (by omega) hlc hz hI); have R1 := Lib.hid (fun W hI => rOid_any ao ln cp zs W hl (by omega) hz hI)
  generalize oidX zs = x at *
  generalize oidErr zs = q at *
  have x1 : (x.toList == x.toList) = true := by simp
  have x2 : (q == q) = true := by simp
  have HI := Lib.hid hi
  clear hi hl hz hlc h
  go_enter Try.func12, Try.ntmps12
  go_wp2_with fail
  refine (C1.out w HI.out).mono ?_
  rintro e W1 ⟨rfl, bk⟩
  replace HI := Lib.hid (HI.out.step bk)
  replace hb := hb.trans (bk.mono hb.size)
  clear bk
  go_wp2_with fail
  refine (R1.out W1 HI.out).mono ?_
  rintro e W2 ⟨rfl, bk⟩
  replace HI := Lib.hid (HI.out.step bk)
  replace hb := hb.trans (bk.mono hb.size)
  clear bk
  go_wp2_with fail
  refine (HA.out W2).mono ?_
  rintro e W3 ⟨rfl, bk⟩
  replace HI := Lib.hid (HI.out.step bk)
  replace hb := hb.trans (bk.mono hb.size)
  clear bk
  go_wp2_with fail
  go_ret
  exact ⟨rfl, hb⟩
end Go.Proofs.Ytimokmhgpigliaa
