/- SignPublic over whatever the program's calls are. -/
import Derived.Test.YtcpnenjmbajbeaaGreatDoorSgTop
import Derived.Test.YtcpnenjmbajbeaaGreatDoorSgRef
namespace Go.Proofs.YtcpnenjmbajbeaaGreatDoor
open Go.RowKit Go.Sort
set_option maxRecDepth 100000
set_option linter.unusedSimpArgs false
set_option linter.unusedVariables false

set_option maxHeartbeats 8000000 in
theorem signPublic_of (C : SgCalls) (HA0 : ∀ W : World, SgnQ W → Calls Tryz.prog 8 #[] W fun e w' => e = .returned (.bool true) ∧ Below W.heap.size W w') (s : ByteArray) (w : World) (hT : SgnQ w) :
    Calls Tryz.prog 3 #[.string s] w fun e w' => e = .returned (.bool true) ∧ Below w.heap.size w w' := by
  have HA := Lib.hid HA0
  have HP := Lib.hid hT
  have hb := Below.refl w.heap.size w
  clear hT HA0
  have C1 := Lib.hid (C.pub s); have R1 := Lib.hid (rpublic_any s)
  generalize pubX s = x at *
  generalize seedE s = q at *
  have x1 : (x.toList == x.toList) = true := by simp
  have x2 : (q == q) = true := by simp
  go_enter Tryz.func3, Tryz.ntmps3
  go_wp2_with fail
  refine (C1.out w HP.out).mono ?_
  rintro e W1 ⟨rfl, bk⟩
  replace hb := hb.trans (bk.mono hb.size)
  replace HP := Lib.hid (HP.out.step bk)
  clear bk
  go_wp2_with fail
  refine (R1.out W1).mono ?_
  rintro e W2 ⟨rfl, bk⟩
  replace hb := hb.trans (bk.mono hb.size)
  replace HP := Lib.hid (HP.out.step bk)
  clear bk
  go_wp2_with fail
  refine (HA.out W2 HP.out).mono ?_
  rintro e W3 ⟨rfl, bk⟩
  replace hb := hb.trans (bk.mono hb.size)
  replace HP := Lib.hid (HP.out.step bk)
  clear bk
  go_wp2_with fail
  go_ret
  exact ⟨rfl, hb⟩
end Go.Proofs.YtcpnenjmbajbeaaGreatDoor
