/- DerReadOid over whatever the program's calls are. -/
import Derived.Test.YtimokmhgpigliaaDrCalls
import Derived.Test.YtimokmhgpigliaaDrROid
import Derived.Test.YtimokmhgpigliaaDrOidR
import Derived.Test.YtimokmhgpigliaaDrNum
namespace Go.Proofs.Ytimokmhgpigliaa
open Go.RowKit Go.Sort
set_option maxRecDepth 100000
set_option linter.unusedSimpArgs false
set_option linter.unusedVariables false

theorem ro_len (s : ByteArray) : (roV s).length ≤ 20 := by
  by_cases h : roErr s = 0
  · obtain ⟨v, r, _, h2, _, _, h5⟩ := ro_facts s h
    rw [h5, List.length_append, List.length_map]
    have : (firstOf v).length = 2 := by rw [firstOf]; split <;> rfl
    omega
  · rw [roV, if_neg h]; simp
set_option maxHeartbeats 16000000 in
theorem derReadOid_of (C : DrCalls) (HA0 : ∀ W : World, Calls Try.prog 14 #[] W fun e w' => e = .returned (.bool true) ∧ Below W.heap.size W w') (s : ByteArray) (w : World) :
    Calls Try.prog 13 #[.string s] w fun e w' => e = .returned (.bool true) ∧ Below w.heap.size w w' := by
  have HA := Lib.hid HA0
  have hb := Below.refl w.heap.size w
  clear HA0
  by_cases h : s.size > 1000
  · have d1 : decide (1000 < (s.size : Int)) = true := by simp; omega
    go_enter Try.func13, Try.ntmps13
    go_wp2_with fail
    refine (HA.out w).mono ?_
    rintro e W1 ⟨rfl, bk⟩
    replace hb := hb.trans (bk.mono hb.size)
    clear bk
    go_wp2_with fail
    go_ret
    exact ⟨rfl, hb⟩
  have d1 : decide (1000 < (s.size : Int)) = false := by simp; omega
  have C2 := Lib.hid (fun W => C.roW s W (by omega)); have R2 := Lib.hid (fun W => rReadOid_any s W (by omega))
  have hlen := ro_len s
  generalize roV s = vs at *
  generalize roErr s = r at *
  have HLN : Hid (vs.length = vs.length) := Lib.hid rfl
  obtain ⟨nv, hnv⟩ : ∃ nv, vs.length = nv := ⟨_, rfl⟩
  rw [hnv] at C2 R2 hlen
  have HNV := Lib.hid hnv
  have x3 : (r == r) = true := by simp
  clear hnv HLN
  clear h
  go_enter Try.func13, Try.ntmps13
  go_wp2_with fail
  refine (C2.out w).mono ?_
  rintro e W1 ⟨⟨u, cu, rfl, hIu⟩, bk⟩
  replace hb := hb.trans (bk.mono hb.size)
  clear bk
  have HIu := Lib.hid hIu
  clear hIu
  go_wp2_with fail
  refine (R2.out W1).mono ?_
  rintro e W2 ⟨⟨v, cv, rfl, hIv⟩, bk⟩
  replace HIu := Lib.hid (HIu.out.step bk)
  replace hb := hb.trans (bk.mono hb.size)
  clear bk
  have HIv := Lib.hid hIv
  clear hIv
  go_wp2_with fail
  refine (nums_same u v nv cu cv vs W2 HNV.out (by omega) HIu.out HIv.out).mono ?_
  rintro e W3 ⟨rfl, bk⟩
  replace HIu := Lib.hid (HIu.out.step bk)
  replace HIv := Lib.hid (HIv.out.step bk)
  replace hb := hb.trans (bk.mono hb.size)
  clear bk
  go_wp2_with fail
  refine (HA.out W3).mono ?_
  rintro e W4 ⟨rfl, bk⟩
  replace HIu := Lib.hid (HIu.out.step bk)
  replace HIv := Lib.hid (HIv.out.step bk)
  replace hb := hb.trans (bk.mono hb.size)
  clear bk
  go_wp2_with fail
  go_ret
  exact ⟨rfl, hb⟩
end Go.Proofs.Ytimokmhgpigliaa
