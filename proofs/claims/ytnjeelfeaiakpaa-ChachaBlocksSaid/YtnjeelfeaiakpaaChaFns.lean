/- The small functions of package chacha: a roll, a quarter round, four bytes as a number, a number as four bytes. -/
import Derived.Test.YtnjeelfeaiakpaaChaNum
namespace Go.Proofs.Ytnjeelfeaiakpaa
open Go.RowKit Go.Sort
set_option maxRecDepth 100000
set_option linter.unusedSimpArgs false
set_option linter.unusedVariables false

theorem results_tmp4 {fn : Func} {t u v x : Tmp} (h : fn.results = #[.tmp t, .tmp u, .tmp v, .tmp x]) (tmps : Array Value) (P : Program) (w : World) :
    (results fn tmps).run P w = .ok (.tuple #[tmps.getD t undef, tmps.getD u undef, tmps.getD v undef, tmps.getD x undef]) w := by
  simp [results, h]
theorem roll_any (v n : Int) (w : World) (h : n = 16 ∨ n = 12 ∨ n = 8 ∨ n = 7) :
    Calls Try.prog 24 #[.int .u32 v, .int .i64 n] w fun e w' => e = .returned (.int .u32 (rotl32 v n)) ∧ w = w' := by
  have k1 : bits .and .u64 16 31 = 16 := by decide +kernel
  have k2 : bits .and .u64 12 31 = 12 := by decide +kernel
  have k3 : bits .and .u64 8 31 = 8 := by decide +kernel
  have k4 : bits .and .u64 7 31 = 7 := by decide +kernel
  rcases h with rfl | rfl | rfl | rfl <;>
  · go_enter Try.func24, Try.ntmps24
    go_wp2
    go_ret
    exact ⟨by simp [rotl32], rfl⟩

/-- Four numbers behind a quarter round. -/
def q4 (a b c d : Int) : Int × Int × Int × Int :=
  let a1 := (a + b) % 4294967296
  let d1 := rotl32 (bits .xor .u32 d a1) 16
  let c1 := (c + d1) % 4294967296
  let b1 := rotl32 (bits .xor .u32 b c1) 12
  let a2 := (a1 + b1) % 4294967296
  let d2 := rotl32 (bits .xor .u32 d1 a2) 8
  let c2 := (c1 + d2) % 4294967296
  let b2 := rotl32 (bits .xor .u32 b1 c2) 7
  (a2, b2, c2, d2)

theorem quarter4_any (a b c d : Int) (w : World) :
    Calls Try.prog 23 #[.int .u32 a, .int .u32 b, .int .u32 c, .int .u32 d] w fun e w' => e = .returned (.tuple #[.int .u32 (q4 a b c d).1, .int .u32 (q4 a b c d).2.1, .int .u32 (q4 a b c d).2.2.1, .int .u32 (q4 a b c d).2.2.2]) ∧ w = w' := by
  obtain ⟨q, hq⟩ : ∃ q, q = q4 a b c d := ⟨_, rfl⟩
  have HQ := Lib.hid hq
  rw [← hq]
  clear hq
  go_enter Try.func23, Try.ntmps23
  go_wp2_with fail
  obtain ⟨a1, ha1⟩ : ∃ x, x = (a + b) % 4294967296 := ⟨_, rfl⟩
  rw [← ha1]
  have Ha1 := Lib.hid ha1
  clear ha1
  refine (roll_any _ 16 _ (by omega)).mono ?_
  rintro e W1 ⟨rfl, rfl⟩
  obtain ⟨d1, hd1⟩ : ∃ x, x = rotl32 (bits .xor .u32 d a1) 16 := ⟨_, rfl⟩
  rw [← hd1]
  have Hd1 := Lib.hid hd1
  clear hd1
  go_wp2_with fail
  obtain ⟨c1, hc1⟩ : ∃ x, x = (c + d1) % 4294967296 := ⟨_, rfl⟩
  rw [← hc1]
  have Hc1 := Lib.hid hc1
  clear hc1
  refine (roll_any _ 12 _ (by omega)).mono ?_
  rintro e W1 ⟨rfl, rfl⟩
  obtain ⟨b1, hb1⟩ : ∃ x, x = rotl32 (bits .xor .u32 b c1) 12 := ⟨_, rfl⟩
  rw [← hb1]
  have Hb1 := Lib.hid hb1
  clear hb1
  go_wp2_with fail
  obtain ⟨a2, ha2⟩ : ∃ x, x = (a1 + b1) % 4294967296 := ⟨_, rfl⟩
  rw [← ha2]
  have Ha2 := Lib.hid ha2
  clear ha2
  refine (roll_any _ 8 _ (by omega)).mono ?_
  rintro e W1 ⟨rfl, rfl⟩
  obtain ⟨d2, hd2⟩ : ∃ x, x = rotl32 (bits .xor .u32 d1 a2) 8 := ⟨_, rfl⟩
  rw [← hd2]
  have Hd2 := Lib.hid hd2
  clear hd2
  go_wp2_with fail
  obtain ⟨c2, hc2⟩ : ∃ x, x = (c1 + d2) % 4294967296 := ⟨_, rfl⟩
  rw [← hc2]
  have Hc2 := Lib.hid hc2
  clear hc2
  refine (roll_any _ 7 _ (by omega)).mono ?_
  rintro e W1 ⟨rfl, rfl⟩
  obtain ⟨b2, hb2⟩ : ∃ x, x = rotl32 (bits .xor .u32 b1 c2) 7 := ⟨_, rfl⟩
  rw [← hb2]
  have Hb2 := Lib.hid hb2
  clear hb2
  go_wp2_with fail
  try simp only [Exit.inBlock, Exit.then]
  have hq : q = (a2, b2, c2, d2) := by
    rw [HQ.out, Hb2.out, Hc2.out, Hd2.out, Ha2.out, Hb1.out, Hc1.out, Hd1.out, Ha1.out]; rfl
  subst hq
  exact bodyPost_ret (results_tmp4 rfl _ _ _) rfl ⟨rfl, rfl⟩

theorem chaLoad_any (s : ByteArray) (w : World) (h : s.size = 4) :
    Calls Try.prog 19 #[.string s] w fun e w' => e = .returned (.int .u32 (lw s[0] s[1] s[2] s[3])) ∧ Below w.heap.size w w' := by
  go_enter Try.func19, Try.ntmps19
  have i0 := index_byte s 0 0 (by omega) (by omega)
  have i1 := index_byte s 1 1 (by omega) (by omega)
  have i2 := index_byte s 2 2 (by omega) (by omega)
  have i3 := index_byte s 3 3 (by omega) (by omega)
  have HE := Lib.hid (or_le32 s[0] s[1] s[2] s[3])
  generalize lw s[0] s[1] s[2] s[3] = x at *
  generalize s[0] = s0 at *
  generalize s[1] = s1 at *
  generalize s[2] = s2 at *
  generalize s[3] = s3 at *
  have h4 : s.size ≤ 4 := by omega
  clear h
  go_wp2_with fail
  go_quiet (fail)
  go_wp2
  go_ret
  refine ⟨?_, below_drewN (Below.refl _ _) _⟩
  rw [HE.out]
  rfl
end Go.Proofs.Ytnjeelfeaiakpaa
