/- CertTimes over whatever the program's calls are. -/
import Derived.Test.YteomfleofeeofaaGreatDoorCtL
namespace Go.Proofs.YteomfleofeeofaaGreatDoor
section
open Go.RowKit Go.Sort
set_option maxRecDepth 100000
set_option linter.unusedSimpArgs false
set_option linter.unusedVariables false

set_option maxHeartbeats 16000000 in
theorem certTimes_of {Q : World → Prop} (C : TmCalls Q) (n : Int) (h0 : -9223372036854775808 ≤ n) (h1 : n ≤ 9223372036854775807) (w : World) (hQ : Q w) :
    Calls Tryz.prog 3 #[.int .i64 n] w fun e w' => e = .returned (.bool true) ∧ Below w.heap.size w w' := by
  have HC := Lib.hid C
  have HQ := Lib.hid hQ
  have HA := Lib.hid (fun W hW => ctwake_of C W hW)
  have hb := Below.refl w.heap.size w
  clear hQ
  have C1 := Lib.hid (fun W hW => C.time n W h0 h1 hW)
  have R1 := Lib.hid (fun W => rTime_any n W h0 h1)
  generalize timX n = x at *
  generalize timE n = q at *
  have x1 : (x.toList == x.toList) = true := by simp
  have x2 : (q == q) = true := by simp
  clear h0 h1 C
  go_enter Tryz.func3, Tryz.ntmps3
  go_wp2_with fail
  refine (C1.out _ HQ.out).mono ?_
  rintro ee W1 ⟨rfl, bk⟩
  replace HQ := Lib.hid (HC.out.step _ _ HQ.out bk)
  replace hb := hb.trans (bk.mono hb.size)
  clear bk
  go_wp2_with fail
  refine (R1.out _).mono ?_
  rintro ee W2 ⟨rfl, bk⟩
  replace HQ := Lib.hid (HC.out.step _ _ HQ.out bk)
  replace hb := hb.trans (bk.mono hb.size)
  clear bk
  go_wp2_with fail
  refine (HA.out _ HQ.out).mono ?_
  rintro ee W3 ⟨rfl, bk⟩
  replace HQ := Lib.hid (HC.out.step _ _ HQ.out bk)
  replace hb := hb.trans (bk.mono hb.size)
  clear bk
  go_wp2_with fail
  go_ret
  exact ⟨rfl, hb⟩
end
end Go.Proofs.YteomfleofeeofaaGreatDoor
