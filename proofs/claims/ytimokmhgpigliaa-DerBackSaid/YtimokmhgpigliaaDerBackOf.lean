/- DerBack over whatever the program's calls are. -/
import Derived.Test.YtimokmhgpigliaaDrCalls
import Derived.Test.YtimokmhgpigliaaDrBack
namespace Go.Proofs.Ytimokmhgpigliaa
open Go.RowKit Go.Sort
set_option maxRecDepth 100000
set_option linter.unusedSimpArgs false
set_option linter.unusedVariables false

theorem wr_size (n : Int) (b : ByteArray) : (wrX n b).size ≤ b.size + 4 := by
  rw [wrX]
  split
  · rw [ByteArray.size_append]
    have : (⟨(wrL n b.size).toArray⟩ : ByteArray).size = (wrL n b.size).length := List.size_toArray
    rw [this, wrL, lenL]
    split
    · simp; omega
    · split <;> (simp; omega)
  · show 0 ≤ _
    omega
set_option maxHeartbeats 8000000 in
theorem derBack_of (C : DrCalls) (HA0 : ∀ W : World, Calls Try.prog 14 #[] W fun e w' => e = .returned (.bool true) ∧ Below W.heap.size W w') (n : Int) (b : ByteArray) (r : ByteArray) (w : World) (h0 : -9223372036854775808 ≤ n) (h1 : n ≤ 9223372036854775807) :
    Calls Try.prog 8 #[.int .i64 n, .string b, .string r] w fun e w' => e = .returned (.bool true) ∧ Below w.heap.size w w' := by
  have HA := Lib.hid HA0
  have hb := Below.refl w.heap.size w
  clear HA0
  by_cases c1 : b.size > 30000
  · have d1 : decide (30000 < (b.size : Int)) = true := by simp; omega
    go_enter Try.func8, Try.ntmps8
    go_wp2_with fail
    refine (HA.out w).mono ?_
    rintro e W1 ⟨rfl, bk⟩
    replace hb := hb.trans (bk.mono hb.size)
    clear bk
    go_wp2_with fail
    go_ret
    exact ⟨rfl, hb⟩
  have d1 : decide (30000 < (b.size : Int)) = false := by simp; omega
  by_cases c2 : r.size > 30000
  · have d2 : decide (30000 < (r.size : Int)) = true := by simp; omega
    go_enter Try.func8, Try.ntmps8
    go_wp2_with fail
    refine (HA.out w).mono ?_
    rintro e W1 ⟨rfl, bk⟩
    replace hb := hb.trans (bk.mono hb.size)
    clear bk
    go_wp2_with fail
    go_ret
    exact ⟨rfl, hb⟩
  have d2 : decide (30000 < (r.size : Int)) = false := by simp; omega
  have C1 := Lib.hid (fun W => C.wr n b W h0 h1 (by omega))
  by_cases c3 : wrE n b = 0
  · obtain ⟨q1, q2, q3, q4⟩ := rd_wr n b r c3
    have hz := wr_size n b
    have C2 := Lib.hid (fun W => C.rd (wrX n b ++ r) W (by rw [ByteArray.size_append]; omega))
    rw [q1, q2, q3, q4] at C2
    rw [c3] at C1
    have k1 : (wrX n b).size + r.size ≤ 9223372036854775807 := by omega
    have C3 := Lib.hid (fun W => C.rd r W (by omega))
    have e0 : ((0 : Int) != 0) = false := rfl
    have e1 : (n != n) = false := by simp
    have e2 : (b.toList != b.toList) = false := by simp
    have e3 : (r.toList != r.toList) = false := by simp
    by_cases c4 : rdErr r = 0
    · obtain ⟨u1, u2⟩ := wr_rd r c4 (by omega)
      have ht : rdTag r = (rdB r.data.toList 0 : Int) := (rd_good r c4).1
      have hb0 := rdB_lt r.data.toList 0
      obtain ⟨z1, z2⟩ := rd_sizes r c4
      have hz2 := wr_size (rdTag r) (rdBody r)
      have C4 := Lib.hid (fun W => C.wr (rdTag r) (rdBody r) W (by omega) (by omega) (by omega))
      rw [u1] at C4
      rw [c4] at C3
      have k2 : (wrX (rdTag r) (rdBody r)).size + (rdRest r).size ≤ 9223372036854775807 := by omega
      have x1 : ((wrX (rdTag r) (rdBody r) ++ rdRest r).toList == r.toList) = true := by rw [u2]; simp
      clear u1 u2 z1 z2 hz hz2 ht hb0 c1 c2 c3 c4 q1 q2 q3 q4 h0 h1
      generalize wrX (rdTag r) (rdBody r) = x2 at *
      generalize rdTag r = t2 at *
      generalize rdBody r = b2 at *
      generalize rdRest r = r2 at *
      generalize wrX n b = x at *
      go_enter Try.func8, Try.ntmps8
      go_wp2_with fail
      refine (C1.out w).mono ?_
      rintro e W1 ⟨rfl, bk⟩
      replace hb := hb.trans (bk.mono hb.size)
      clear bk
      go_wp2_with fail
      refine (C2.out W1).mono ?_
      rintro e W2 ⟨rfl, bk⟩
      replace hb := hb.trans (bk.mono hb.size)
      clear bk
      go_wp2_with fail
      refine (C3.out W2).mono ?_
      rintro e W3 ⟨rfl, bk⟩
      replace hb := hb.trans (bk.mono hb.size)
      clear bk
      go_wp2_with fail
      refine (C4.out W3).mono ?_
      rintro e W4 ⟨rfl, bk⟩
      replace hb := hb.trans (bk.mono hb.size)
      clear bk
      go_wp2_with fail
      refine (HA.out W4).mono ?_
      rintro e W5 ⟨rfl, bk⟩
      replace hb := hb.trans (bk.mono hb.size)
      clear bk
      go_wp2_with fail
      go_ret
      exact ⟨rfl, hb⟩
    · obtain ⟨u1, u2, u3, _⟩ := rd_bad r _ rfl c4
      rw [u1, u2, u3] at C3
      have e4 : (rdErr r != 0) = true := by simp [c4]
      clear u1 u2 u3 hz c1 c2 c3 c4 q1 q2 q3 q4 h0 h1
      generalize rdErr r = q at *
      generalize wrX n b = x at *
      go_enter Try.func8, Try.ntmps8
      go_wp2_with fail
      refine (C1.out w).mono ?_
      rintro e W1 ⟨rfl, bk⟩
      replace hb := hb.trans (bk.mono hb.size)
      clear bk
      go_wp2_with fail
      refine (C2.out W1).mono ?_
      rintro e W2 ⟨rfl, bk⟩
      replace hb := hb.trans (bk.mono hb.size)
      clear bk
      go_wp2_with fail
      refine (C3.out W2).mono ?_
      rintro e W3 ⟨rfl, bk⟩
      replace hb := hb.trans (bk.mono hb.size)
      clear bk
      go_wp2_with fail
      refine (HA.out W3).mono ?_
      rintro e W4 ⟨rfl, bk⟩
      replace hb := hb.trans (bk.mono hb.size)
      clear bk
      go_wp2_with fail
      go_ret
      exact ⟨rfl, hb⟩
  · have hE : wrE n b = 1 := by
      cases ht : isT n with
      | false => rw [wrE, ht]; rfl
      | true => exact absurd (by rw [wrE, ht, if_pos rfl, if_pos (by omega)]) c3
    have hX : wrX n b = ⟨#[]⟩ := if_neg c3
    rw [hE, hX] at C1
    clear hE hX c1 c2 c3 h0 h1
    go_enter Try.func8, Try.ntmps8
    go_wp2_with fail
    refine (C1.out w).mono ?_
    rintro e W1 ⟨rfl, bk⟩
    replace hb := hb.trans (bk.mono hb.size)
    clear bk
    go_wp2_with fail
    refine (HA.out W1).mono ?_
    rintro e W2 ⟨rfl, bk⟩
    replace hb := hb.trans (bk.mono hb.size)
    clear bk
    go_wp2_with fail
    go_ret
    exact ⟨rfl, hb⟩
end Go.Proofs.Ytimokmhgpigliaa
