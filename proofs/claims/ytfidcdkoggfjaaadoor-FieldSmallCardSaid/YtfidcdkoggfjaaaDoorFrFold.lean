/- The reference's carries. -/
import Derived.Test.YtfidcdkoggfjaaaDoorFrZero
namespace Go.Proofs.YtfidcdkoggfjaaaDoor
open Go.RowKit Go.Sort
set_option maxRecDepth 100000
set_option linter.unusedSimpArgs false
set_option linter.unusedVariables false

theorem and_16 (y : Nat) (h1 : y ≤ 4611686018427387904) : bits .and .i64 (y : Int) 65535 = ((y % 65536 : Nat) : Int) := by
  have h16 : (BitVec.ofInt 64 65535).toNat = 2 ^ 16 - 1 := by decide
  have key : (BitVec.ofInt 64 (y : Int) &&& BitVec.ofInt 64 65535).toNat = ((y : Int) % ((2 ^ 64 : Nat) : Int)).toNat % 2 ^ 16 := by
    rw [BitVec.toNat_and, BitVec.toNat_ofInt, h16, Nat.and_two_pow_sub_one_eq_mod]
  show IntKind.i64.wrap ((BitVec.ofInt 64 (y : Int) &&& BitVec.ofInt 64 65535).toNat : Nat) = _
  rw [key, IntKind.wrap_i64]
  omega
/-- No digit is greater than 2^60. -/
def small60 (v : List Nat) : Prop := ∀ j, v.getD j 0 ≤ 1152921504606846976
theorem rnd_small (v : List Nat) (h : small60 v) (hl : v.length = 16) (i : Nat) (hi : i < 16) : (rnd v i).2 ≤ 1152921504606846976 ∧ (rnd v i).1.getD i 0 = v.getD i 0 ∧ v.getD i 0 ≤ 1152921504606846976 :=
  ⟨rnd_carry v _ h i (by omega), rnd_late v i (by omega) i (Nat.le_refl _), h i⟩
theorem foldR_small (v : List Nat) (h : small60 v) (hl : v.length = 16) : small60 (foldR v) ∧ (rnd v 16).2 ≤ 35184372088832 ∧ (rnd v 16).1.getD 0 0 ≤ 65535 := by
  obtain ⟨c1, e1, b1⟩ := rnd_small v h hl 15 (by decide)
  have hc : (rnd v 16).2 = ((rnd v 15).1.getD 15 0 + (rnd v 15).2) / 65536 := rfl
  have hc2 : (rnd v 16).2 ≤ 35184372088832 := by rw [hc, e1]; omega
  have h0 := rnd_low v 16 (by omega) 0 (by decide)
  refine ⟨fun j => ?_, hc2, by omega⟩
  by_cases hj : j < 16
  · rw [foldR, nset_getD _ _ _ _ (by rw [rnd_length]; omega)]
    split
    · omega
    · have := rnd_low v 16 (by omega) j hj; omega
  · rw [List.getD_eq_getElem?_getD, List.getElem?_eq_none (by rw [foldR_length]; omega)]
    simp
/-- So many rounds. -/
def foldN (v : List Nat) : Nat → List Nat
  | 0 => v
  | r + 1 => foldR (foldN v r)
theorem foldN_length (v : List Nat) (h : v.length = 16) : ∀ r, (foldN v r).length = 16
  | 0 => h
  | r + 1 => by rw [foldN, foldR_length]; exact foldN_length v h r
theorem foldN_small (v : List Nat) (h : small60 v) (hl : v.length = 16) : ∀ r, small60 (foldN v r)
  | 0 => h
  | r + 1 => (foldR_small _ (foldN_small v h hl r) (foldN_length v hl r)).1
/-- No round before has ended it. -/
def goesOn (v : List Nat) (r : Nat) : Prop := ∀ q, q < r → (rnd (foldN v q) 16).2 ≠ 0
theorem foldD_stop (v : List Nat) (r : Nat) (hr : r < 3) (h : goesOn v r) (h0 : (rnd (foldN v r) 16).2 = 0) : foldN v (r + 1) = foldD v := by
  rcases (show r = 0 ∨ r = 1 ∨ r = 2 by omega) with rfl | rfl | rfl
  · have e0 : (rnd v 16).2 = 0 := h0
    rw [foldD, if_pos e0]; rfl
  · have e0 : (rnd v 16).2 ≠ 0 := h 0 (by decide)
    have e1 : (rnd (foldR v) 16).2 = 0 := h0
    rw [foldD, if_neg e0, if_pos e1]; rfl
  · have e0 : (rnd v 16).2 ≠ 0 := h 0 (by decide)
    have e1 : (rnd (foldR v) 16).2 ≠ 0 := h 1 (by decide)
    rw [foldD, if_neg e0, if_neg e1]; rfl
theorem foldD_end (v : List Nat) (h : goesOn v 3) : foldN v 3 = foldD v := by
  have e0 : (rnd v 16).2 ≠ 0 := h 0 (by decide)
  have e1 : (rnd (foldR v) 16).2 ≠ 0 := h 1 (by decide)
  rw [foldD, if_neg e0, if_neg e1]; rfl

set_option maxHeartbeats 4000000 in
theorem foldRef_any (D : Nat) (v : List Nat) (w : World) (hD : w.heap[D]? = some (.cells (dcl v) 3)) (hl : v.length = 16) (hv : small60 v) :
    Calls Tryd.prog 37 #[.slice (some ⟨D, 0, none⟩) 16 16] w fun e w' => e = .returned (.slice (some ⟨D, 0, none⟩) 16 16) ∧ w'.heap[D]? = some (.cells (dcl (foldD v)) 3) ∧ But D w w' := by
  have HD := Lib.hid hD; have HV := Lib.hid hv; have HLv := Lib.hid hl
  clear hD hv hl
  go_enter Tryd.func37, Tryd.ntmps37
  go_wp2_with fail
  go_loopw [3] (fun kv wr => ∃ k : Nat, k ≤ 3 ∧ kv = .int .i64 (k : Int) ∧ wr.heap[D]? = some (.cells (dcl (foldN v k)) 3) ∧ goesOn v k ∧ But D w wr) (fun kv _ => 3 - (intOf kv).toNat)
  case atStart => exact ⟨0, by omega, rfl, HD.out, fun q hq => absurd hq (by omega), But.refl _ _⟩
  case round =>
    clear HD
    obtain ⟨k, hk, rfl, hd, hgo, hbut⟩ := hrel
    have HD := Lib.hid hd; have HGo := Lib.hid hgo
    clear hd hgo
    by_cases hk3 : k < 3
    · have hdk : decide ((k : Int) < 3) = true := by simp; omega
      have HU := Lib.hid (foldN_small v HV.out HLv.out k)
      have HUl := Lib.hid (foldN_length v HLv.out k)
      have HN : Hid (foldN v (k + 1) = foldR (foldN v k)) := Lib.hid rfl
      have HE := Lib.hid (foldD_stop v k hk3 HGo.out)
      have HG : Hid ((rnd (foldN v k) 16).2 ≠ 0 → goesOn v (k + 1)) := Lib.hid (fun hne q hq => by
        by_cases hqk : q = k
        · rw [hqk]; exact hne
        · exact HGo.out q (by omega))
      generalize foldN v k = u at *
      go_wp2_with fail
      go_loopw [4, 5] (fun cv iv wr => ∃ i : Nat, i ≤ 16 ∧ iv = .int .i64 (i : Int) ∧ cv = .int .i64 (((rnd u i).2 : Nat) : Int) ∧ wr.heap[D]? = some (.cells (dcl (rnd u i).1) 3) ∧ But D w wr) (fun _ iv _ => 16 - (intOf iv).toNat)
      case atStart => exact ⟨0, by omega, rfl, rfl, HD.out, hbut⟩
      case round =>
        clear HD hbut
        obtain ⟨i, hi, rfl, rfl, hd, hbut⟩ := hrel
        have HD := Lib.hid hd
        clear hd
        by_cases hi16 : i < 16
        · have hdi : decide ((i : Int) < 16) = true := by simp; omega
          obtain ⟨c1, e1, b1⟩ := rnd_small u HU.out HUl.out i hi16
          have HRS1 : Hid ((rnd u (i + 1)).1 = (rnd u i).1.set i (((rnd u i).1.getD i 0 + (rnd u i).2) % 65536)) := Lib.hid rfl
          have HRS2 : Hid ((rnd u (i + 1)).2 = ((rnd u i).1.getD i 0 + (rnd u i).2) / 65536) := Lib.hid rfl
          have hrl : (rnd u i).1.length = 16 := by rw [rnd_length, HUl.out]
          rw [e1] at HRS1 HRS2
          have cx := dcl_cell HD.out i (by omega)
          rw [e1] at cx
          clear e1
          generalize hxx : u.getD i 0 = x at *
          generalize (rnd u i).2 = c at *
          generalize (rnd u i).1 = r at *
          clear hxx
          have fx := frozen_of_row wr D i _ _ HD.out
          have hs : ((x : Int) + (c : Int)) = ((x + c : Nat) : Int) := by omega
          have ha := and_16 (x + c) (by omega)
          rw [← hs] at ha
          have r1 : (wr.setCell ⟨D, i, none⟩ (.int .i64 ((x : Int) + (c : Int)))).heap[D]? = some (.cells (dcl (r.set i (x + c))) 3) := by rw [hs]; exact dcl_set HD.out i (x + c)
          have cy := dcl_cell r1 i (by rw [List.length_set]; omega)
          have e2 : (r.set i (x + c)).getD i 0 = x + c := by simp [List.getD_eq_getElem?_getD, hrl, hi16]
          rw [e2, ← hs] at cy
          have fy := frozen_of_row _ D i _ _ r1
          have r2 := dcl_set r1 i ((x + c) % 65536)
          rw [List.set_set, ← HRS1.out] at r2
          have HR2 := Lib.hid r2
          have hbut2 := (hbut.trans (But.setCell D wr ⟨D, i, none⟩ (.int .i64 ((x : Int) + (c : Int))) rfl)).trans (But.setCell D _ ⟨D, i, none⟩ (.int .i64 (((x + c) % 65536 : Nat) : Int)) rfl)
          clear r1 r2 e2 hs HRS1
          generalize (x + c) % 65536 = lo at *
          go_wp2_with fail
          go_roundw
          case rel => exact ⟨i + 1, by omega, by go_num, by rw [HRS2.out]; go_num, HR2.out, hbut2⟩
          case measure => simp [intOf]; omega
        · have hdi : decide ((i : Int) < 16) = false := by simp; omega
          obtain rfl : i = 16 := by omega
          obtain ⟨s1, s2, s3⟩ := foldR_small u HU.out HUl.out
          have HF : Hid (foldR u = (rnd u 16).1.set 0 ((rnd u 16).1.getD 0 0 + 38 * (rnd u 16).2)) := Lib.hid rfl
          have hrl : (rnd u 16).1.length = 16 := by rw [rnd_length, HUl.out]
          have cx := dcl_cell HD.out 0 (by omega)
          have fx := frozen_of_row wr D 0 _ _ HD.out
          generalize hxx : (rnd u 16).1.getD 0 0 = x at *
          generalize hcc : (rnd u 16).2 = c at *
          generalize (rnd u 16).1 = r at *
          clear hxx s1
          have hs : ((x : Int) + 38 * (c : Int)) = ((x + 38 * c : Nat) : Int) := by omega
          have r1 : (wr.setCell ⟨D, 0, none⟩ (.int .i64 ((x : Int) + 38 * (c : Int)))).heap[D]? = some (.cells (dcl (r.set 0 (x + 38 * c))) 3) := by rw [hs]; exact dcl_set HD.out 0 (x + 38 * c)
          rw [← HF.out, ← HN.out] at r1
          have HR1 := Lib.hid r1
          have hbut1 := hbut.trans (But.setCell D wr ⟨D, 0, none⟩ (.int .i64 ((x : Int) + 38 * (c : Int))) rfl)
          clear r1 hs
          by_cases h0 : c = 0
          · have hd0 : ((c : Int) == 0) = true := by rw [h0]; rfl
            have HEnd := Lib.hid (HE.out h0)
            rw [HEnd.out] at HR1
            clear h0
            go_wp2_with fail
            go_ret
            exact ⟨rfl, HR1.out, hbut1⟩
          · have hd0 : ((c : Int) == 0) = false := by simp; omega
            have HGG := Lib.hid (HG.out h0)
            go_wp2_with fail
            go_roundw
            case rel => exact ⟨k + 1, by omega, by go_num, HR1.out, HGG.out, hbut1⟩
            case measure => simp [intOf]; omega
    · have hdk : decide ((k : Int) < 3) = false := by simp; omega
      obtain rfl : k = 3 := by omega
      rw [foldD_end v HGo.out] at HD
      go_wp2_with fail
      go_ret
      exact ⟨rfl, HD.out, hbut⟩
end Go.Proofs.YtfidcdkoggfjaaaDoor
