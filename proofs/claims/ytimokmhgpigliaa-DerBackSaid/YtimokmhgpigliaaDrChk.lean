/- What is wrong with bytes that are things, one in another one: the reference's check, by levels. -/
import Derived.Test.YtimokmhgpigliaaDrRead
namespace Go.Proofs.Ytimokmhgpigliaa
open Go.RowKit Go.Sort
set_option maxRecDepth 100000
set_option linter.unusedSimpArgs false
set_option linter.unusedVariables false

/-- A sequence of things, where what is wrong with a body is told. -/
def chkL (inner : ByteArray → Int) : Nat → ByteArray → Int
  | 0, _ => 0
  | f + 1, s => if s.size = 0 then 0 else if rdErr s ≠ 0 then rdErr s else if rdB s.data.toList 0 / 32 % 2 = 1 then (if inner (rdBody s) ≠ 0 then inner (rdBody s) else chkL inner f (rdRest s)) else chkL inner f (rdRest s)
def chkF (inner : ByteArray → Int) (s : ByteArray) : Int := chkL inner s.size s
/-- So many levels may still be opened. -/
def chkK : Nat → ByteArray → Int
  | 0 => chkF fun _ => 14
  | k + 1 => chkF (chkK k)
theorem rd_sizes (s : ByteArray) (h : rdErr s = 0) : (rdBody s).size ≤ s.size ∧ (rdRest s).size < s.size := by
  obtain ⟨_, h2, h3, _⟩ := rd_good s h
  have hl : s.data.toList.length = s.size := (Lib.size_eq s).symm
  have hA : 2 ≤ rdA s.data.toList := by rw [rdA]; split <;> omega
  have hk : rdA s.data.toList + rdN s.data.toList ≤ s.size := by
    have h' : rdE s.data.toList = 0 := h
    rw [rdE] at h'
    split at h'
    · cases h'
    split at h'
    · cases h'
    split at h'
    · cases h'
    split at h'
    · cases h'
    split at h'
    · cases h'
    split at h'
    · cases h'
    split at h'
    · cases h'
    omega
  rw [h2, h3, ByteArray.size_extract, ByteArray.size_extract]
  omega
theorem chkL_fuel (inner : ByteArray → Int) : ∀ (n f : Nat) (s : ByteArray), s.size ≤ f → s.size ≤ n → chkL inner f s = chkF inner s
  | n, 0, s, h, _ => by
    have e : s.size = 0 := by omega
    rw [chkF, e]
  | n, f + 1, s, h, hn => by
    by_cases h0 : s.size = 0
    · rw [chkF, h0, chkL, chkL, if_pos h0]
    obtain ⟨m, hm⟩ : ∃ m, s.size = m + 1 := ⟨s.size - 1, by omega⟩
    rw [chkF, hm, chkL, chkL, if_neg h0, if_neg h0]
    by_cases h1 : rdErr s = 0
    · have hr := (rd_sizes s h1).2
      obtain ⟨n', rfl⟩ : ∃ n', n = n' + 1 := ⟨n - 1, by omega⟩
      rw [chkL_fuel inner n' f (rdRest s) (by omega) (by omega), chkL_fuel inner n' m (rdRest s) (by omega) (by omega)]
    · rw [if_pos h1, if_pos h1]
termination_by n => n
theorem chkF_none (inner : ByteArray → Int) (s : ByteArray) (h : s.size = 0) : chkF inner s = 0 := by rw [chkF, h, chkL]
theorem chkF_step (inner : ByteArray → Int) (s : ByteArray) (h : s.size ≠ 0) : chkF inner s = if rdErr s ≠ 0 then rdErr s else if rdB s.data.toList 0 / 32 % 2 = 1 then (if inner (rdBody s) ≠ 0 then inner (rdBody s) else chkF inner (rdRest s)) else chkF inner (rdRest s) := by
  obtain ⟨m, hm⟩ : ∃ m, s.size = m + 1 := ⟨s.size - 1, by omega⟩
  rw [chkF, hm, chkL, if_neg h]
  by_cases h1 : rdErr s = 0
  · have hr := (rd_sizes s h1).2
    rw [chkL_fuel inner m m (rdRest s) (by omega) (by omega)]
  · rw [if_pos h1, if_pos h1]
theorem bit32 : ∀ b : Fin 256, (bits .and .i64 ((b.val : Nat) : Int) 32 == 32) = decide (b.val / 32 % 2 = 1) := by decide +kernel
theorem bit32_of (b : Nat) (h : b < 256) : (bits .and .i64 (b : Int) 32 == 32) = decide (b / 32 % 2 = 1) := bit32 ⟨b, h⟩

set_option maxHeartbeats 8000000 in
theorem rcheckL_any (inner : ByteArray → Int) (d : Nat) (s : ByteArray) (w : World) (hs : s.size ≤ 1000000000)
    (h : (d = 7 ∧ ∀ s, inner s = 14) ∨ (d < 7 ∧ ∀ (s : ByteArray) (W : World), s.size ≤ 1000000000 → Calls Try.prog 36 #[.string s, .int .i64 ((d : Int) + 1)] W fun e w' => e = .returned (.int .i64 (inner s)) ∧ Below W.heap.size W w')) :
    Calls Try.prog 36 #[.string s, .int .i64 (d : Int)] w fun e w' => e = .returned (.int .i64 (chkF inner s)) ∧ Below w.heap.size w w' := by
  have HH := Lib.hid h
  have hb := Below.refl w.heap.size w
  clear h
  go_enter Try.func36, Try.ntmps36
  go_wp2_with fail
  generalize hBB : w.heap.size = B at *
  have HBB := Lib.hid hBB
  clear hBB
  go_loopw [0] (fun v wr => ∃ c : ByteArray, v = .string c ∧ c.size ≤ 1000000000 ∧ Hid (chkF inner c = chkF inner s) ∧ Below B w wr) (fun v _ => (match v with | .string c => c.size | _ => 0))
  case atStart => exact ⟨s, rfl, hs, Lib.hid rfl, hb⟩
  case round =>
    clear hb hs
    obtain ⟨c, rfl, hc, HC, hb⟩ := hrel
    have hB : B ≤ wr.heap.size := by have := hb.size; rw [HBB.out] at this; exact this
    by_cases c0 : c.size = 0
    · have q0 : c.toList.isEmpty = true := by rw [Lib.toList_data]; have : c.data.toList = [] := List.length_eq_zero_iff.1 (by rw [← Lib.size_eq]; exact c0); rw [this]; rfl
      have HV := Lib.hid (HC.out.symm.trans (chkF_none inner c c0))
      clear HC c0
      go_wp2_with fail
      go_ret
      exact ⟨by rw [HV.out]; rfl, by rw [HBB.out]; exact hb⟩
    have q0 : c.toList.isEmpty = false := by
      rw [Lib.toList_data]
      cases h : c.data.toList with
      | nil => exact absurd (by rw [Lib.size_eq, h]; rfl) c0
      | cons a r => rfl
    have hstep := HC.out.symm.trans (chkF_step inner c c0)
    have CR := Lib.hid (fun W => rRead_any c W hc)
    by_cases c1 : rdErr c = 0
    · obtain ⟨z1, z2⟩ := rd_sizes c c1
      have ht : rdTag c = (rdB c.data.toList 0 : Int) := (rd_good c c1).1
      have hb0 := rdB_lt c.data.toList 0
      rw [ht, c1] at CR
      have e0 : ((0 : Int) != 0) = false := rfl
      rw [if_neg (fun h => h c1)] at hstep
      have hbit := bit32_of _ hb0
      clear ht c1
      generalize rdB c.data.toList 0 = b0 at *
      by_cases c2 : b0 / 32 % 2 = 1
      · rw [if_pos c2] at hstep
        rw [decide_eq_true c2] at hbit
        rcases HH.out with ⟨rfl, h14⟩ | ⟨hd, hin⟩
        · rw [h14, if_pos (by decide)] at hstep
          have HV := Lib.hid hstep
          clear hstep HC c2 c0 z1 z2 HH
          have d7 : decide ((7 : Int) ≤ ((7 : Nat) : Int)) = true := rfl
          generalize rdBody c = bd at *
          generalize rdRest c = rs at *
          go_wp2_with fail
          refine (CR.out wr).mono ?_
          rintro e W1 ⟨rfl, bk⟩
          replace hb := hb.trans (bk.mono hB)
          clear bk CR
          go_wp2_with fail
          go_ret
          exact ⟨by rw [HV.out]; rfl, by rw [HBB.out]; exact hb⟩
        · have CI := Lib.hid (fun W => hin (rdBody c) W (by omega))
          have d7 : decide ((7 : Int) ≤ (d : Int)) = false := by simp; omega
          have w7 : IntKind.i64.wrap ((d : Int) + 1) = (d : Int) + 1 := by rw [IntKind.wrap_i64]; omega
          have zr : (rdRest c).size < c.size := z2
          have zc : (rdRest c).size ≤ 1000000000 := by omega
          by_cases c3 : inner (rdBody c) = 0
          · have HV := Lib.hid (hstep.trans (if_neg (fun h => h c3)))
            rw [c3] at CI
            have e0 : ((0 : Int) != 0) = false := rfl
            have ZR := Lib.hid zr
            clear hstep HC c2 c0 z1 z2 hin c3 HH zr
            generalize rdBody c = bd at *
            generalize rdRest c = rs at *
            go_wp2_with fail
            refine (CR.out wr).mono ?_
            rintro e W1 ⟨rfl, bk⟩
            replace hb := hb.trans (bk.mono hB)
            have hB1 : B ≤ W1.heap.size := Nat.le_trans hB bk.size
            clear bk CR
            go_wp2_with fail
            refine (CI.out W1).mono ?_
            rintro e W2 ⟨rfl, bk⟩
            replace hb := hb.trans (bk.mono hB1)
            clear bk CI
            go_wp2_with fail
            go_roundw
            case rel => exact ⟨rs, rfl, zc, Lib.hid HV.out.symm, hb⟩
            case measure => exact ZR.out
          · have HV := Lib.hid (hstep.trans (if_pos c3))
            have e0 : (inner (rdBody c) != 0) = true := by simp [c3]
            clear hstep HC c2 c0 z1 z2 hin c3 HH zr
            generalize inner (rdBody c) = q at *
            generalize rdBody c = bd at *
            generalize rdRest c = rs at *
            go_wp2_with fail
            refine (CR.out wr).mono ?_
            rintro e W1 ⟨rfl, bk⟩
            replace hb := hb.trans (bk.mono hB)
            have hB1 : B ≤ W1.heap.size := Nat.le_trans hB bk.size
            clear bk CR
            go_wp2_with fail
            refine (CI.out W1).mono ?_
            rintro e W2 ⟨rfl, bk⟩
            replace hb := hb.trans (bk.mono hB1)
            clear bk CI
            go_wp2_with fail
            go_ret
            exact ⟨by rw [HV.out]; rfl, by rw [HBB.out]; exact hb⟩
      · rw [if_neg c2] at hstep
        rw [decide_eq_false c2] at hbit
        have HV := Lib.hid hstep
        have ZR := Lib.hid z2
        have zc : (rdRest c).size ≤ 1000000000 := by omega
        clear hstep HC c2 c0 z1 z2 HH
        generalize rdBody c = bd at *
        generalize rdRest c = rs at *
        go_wp2_with fail
        refine (CR.out wr).mono ?_
        rintro e W1 ⟨rfl, bk⟩
        replace hb := hb.trans (bk.mono hB)
        clear bk CR
        go_wp2_with fail
        go_roundw
        case rel => exact ⟨rs, rfl, zc, Lib.hid HV.out.symm, hb⟩
        case measure => exact ZR.out
    · have e0 : (rdErr c != 0) = true := by simp [c1]
      have HV := Lib.hid (hstep.trans (if_pos c1))
      clear hstep HC c0 c1 HH
      generalize rdErr c = q at *
      generalize rdBody c = bd at *
      generalize rdRest c = rs at *
      generalize rdTag c = tg at *
      go_wp2_with fail
      refine (CR.out wr).mono ?_
      rintro e W1 ⟨rfl, bk⟩
      replace hb := hb.trans (bk.mono hB)
      clear bk CR
      go_wp2_with fail
      go_ret
      exact ⟨by rw [HV.out]; rfl, by rw [HBB.out]; exact hb⟩
theorem rcheckK_any : ∀ (k : Nat), k ≤ 7 → ∀ (s : ByteArray) (w : World), s.size ≤ 1000000000 →
    Calls Try.prog 36 #[.string s, .int .i64 (((7 - k : Nat) : Nat) : Int)] w fun e w' => e = .returned (.int .i64 (chkK k s)) ∧ Below w.heap.size w w'
  | 0, _, s, w, hs => rcheckL_any (fun _ => 14) 7 s w hs (.inl ⟨rfl, fun _ => rfl⟩)
  | k + 1, hk, s, w, hs => rcheckL_any (chkK k) (7 - (k + 1)) s w hs (.inr ⟨by omega, fun s W hs => by
      have := rcheckK_any k (by omega) s W hs
      rwa [show (((7 - k : Nat) : Nat) : Int) = ((7 - (k + 1) : Nat) : Int) + 1 by omega] at this⟩)
set_option maxHeartbeats 1000000 in
theorem rCheck_any (s : ByteArray) (w : World) (hs : s.size ≤ 1000000000) :
    Calls Try.prog 20 #[.string s] w fun e w' => e = .returned (.int .i64 (chkK 7 s)) ∧ Below w.heap.size w w' := by
  have C := Lib.hid (fun W => rcheckK_any 7 (by omega) s W hs)
  have hb := Below.refl w.heap.size w
  clear hs
  go_enter Try.func20, Try.ntmps20
  go_wp2_with fail
  refine (C.out w).mono ?_
  rintro e W1 ⟨rfl, bk⟩
  go_wp2_with fail
  go_ret
  exact ⟨rfl, hb.trans (bk.mono hb.size)⟩
end Go.Proofs.Ytimokmhgpigliaa
