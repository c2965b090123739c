/- DerOids over whatever the program's calls are. -/
import Derived.Test.YtimokmhgpigliaaDrCalls
import Derived.Test.YtimokmhgpigliaaDrROid
import Derived.Test.YtimokmhgpigliaaDrOidR
import Derived.Test.YtimokmhgpigliaaDrNum
import Derived.Test.YtimokmhgpigliaaDerReadOidOf
namespace Go.Proofs.Ytimokmhgpigliaa
open Go.RowKit Go.Sort
set_option maxRecDepth 100000
set_option linter.unusedSimpArgs false
set_option linter.unusedVariables false

set_option maxHeartbeats 16000000 in
theorem derOids_of (C : DrCalls) (HA0 : ∀ W : World, Calls Try.prog 14 #[] W fun e w' => e = .returned (.bool true) ∧ Below W.heap.size W w') (ao : Option Addr) (ln cp : Nat) (zs : List Int) (hl : zs.length = ln) (hz : ∀ k, -9223372036854775808 ≤ zs.getD k 0 ∧ zs.getD k 0 ≤ 9223372036854775807) (hlc : ln ≤ cp) (s : ByteArray) (w : World) (hi : IntsAt w ao zs) :
    Calls Try.prog 7 #[.slice ao ln cp, .string s] w fun e w' => e = .returned (.bool true) ∧ Below w.heap.size w w' := by
  have HA := Lib.hid HA0
  have hb := Below.refl w.heap.size w
  clear HA0
  by_cases h : ln > 50
  · have d1 : decide (50 < (ln : Int)) = true := by simp; omega
    go_enter Try.func7, Try.ntmps7
    go_wp2_with fail
    refine (HA.out w).mono ?_
    rintro e W1 ⟨rfl, bk⟩
    replace hb := hb.trans (bk.mono hb.size)
    clear bk
    go_wp2_with fail
    go_ret
    exact ⟨rfl, hb⟩
  have d1 : decide (50 < (ln : Int)) = false := by simp; omega
  by_cases h' : s.size > 1000
  · have d2 : decide (1000 < (s.size : Int)) = true := by simp; omega
    go_enter Try.func7, Try.ntmps7
    go_wp2_with fail
    refine (HA.out w).mono ?_
    rintro e W1 ⟨rfl, bk⟩
    replace hb := hb.trans (bk.mono hb.size)
    clear bk
    go_wp2_with fail
    go_ret
    exact ⟨rfl, hb⟩
  have d2 : decide (1000 < (s.size : Int)) = false := by simp; omega
  have C1 := Lib.hid (fun W hI => C.oid ao ln cp zs W hl (by omega) hlc hz hI); have R1 := Lib.hid (fun W hI => rOid_any ao ln cp zs W hl (by omega) hz hI)
  generalize oidX zs = x at *
  generalize oidErr zs = q at *
  have x1 : (x.toList == x.toList) = true := by simp
  have x2 : (q == q) = true := by simp
  have HI := Lib.hid hi
  have C2 := Lib.hid (fun W => C.roW s W (by omega)); have R2 := Lib.hid (fun W => rReadOid_any s W (by omega))
  have hlen := ro_len s
  generalize roV s = vs at *
  generalize roErr s = r at *
  have HLN : Hid (vs.length = vs.length) := Lib.hid rfl
  obtain ⟨nv, hnv⟩ : ∃ nv, vs.length = nv := ⟨_, rfl⟩
  rw [hnv] at C2 R2 hlen
  have HNV := Lib.hid hnv
  have x3 : (r == r) = true := by simp
  clear hnv HLN
  clear hi hl hz hlc h h'
  go_enter Try.func7, Try.ntmps7
  go_wp2_with fail
  refine (C1.out w HI.out).mono ?_
  rintro e W1 ⟨rfl, bk⟩
  replace HI := Lib.hid (HI.out.step bk)
  replace hb := hb.trans (bk.mono hb.size)
  clear bk
  go_wp2_with fail
  refine (R1.out W1 HI.out).mono ?_
  rintro e W2 ⟨rfl, bk⟩
  replace HI := Lib.hid (HI.out.step bk)
  replace hb := hb.trans (bk.mono hb.size)
  clear bk
  go_wp2_with fail
  refine (C2.out W2).mono ?_
  rintro e W3 ⟨⟨u, cu, rfl, hIu⟩, bk⟩
  replace HI := Lib.hid (HI.out.step bk)
  replace hb := hb.trans (bk.mono hb.size)
  clear bk
  have HIu := Lib.hid hIu
  clear hIu
  go_wp2_with fail
  refine (R2.out W3).mono ?_
  rintro e W4 ⟨⟨v, cv, rfl, hIv⟩, bk⟩
  replace HI := Lib.hid (HI.out.step bk)
  replace HIu := Lib.hid (HIu.out.step bk)
  replace hb := hb.trans (bk.mono hb.size)
  clear bk
  have HIv := Lib.hid hIv
  clear hIv
  go_wp2_with fail
  refine (nums_same u v nv cu cv vs W4 HNV.out (by omega) HIu.out HIv.out).mono ?_
  rintro e W5 ⟨rfl, bk⟩
  replace HI := Lib.hid (HI.out.step bk)
  replace HIu := Lib.hid (HIu.out.step bk)
  replace HIv := Lib.hid (HIv.out.step bk)
  replace hb := hb.trans (bk.mono hb.size)
  clear bk
  go_wp2_with fail
  refine (HA.out W5).mono ?_
  rintro e W6 ⟨rfl, bk⟩
  replace HI := Lib.hid (HI.out.step bk)
  replace HIu := Lib.hid (HIu.out.step bk)
  replace HIv := Lib.hid (HIv.out.step bk)
  replace hb := hb.trans (bk.mono hb.size)
  clear bk
  go_wp2_with fail
  go_ret
  exact ⟨rfl, hb⟩
end Go.Proofs.Ytimokmhgpigliaa
