/- What the laws on messages ask of the program's calls; the chapter's examples. -/
import Derived.Test.YtjemikbnncfonaaHeW
import Derived.Test.YtjemikbnncfonaaHeK
namespace Go.Proofs.Ytjemikbnncfonaa
open Go.RowKit Go.Sort
set_option maxRecDepth 100000
set_option linter.unusedSimpArgs false
set_option linter.unusedVariables false

structure HeCalls : Prop where
  enc : ∀ (m : HMsg) (ao : Option Addr) (n c : Nat) (w : World), m.su.length = n → n ≤ 1000 → m.rn.size ≤ 100000 → m.sh.size ≤ 100000 → m.da.size ≤ 100000 → (∀ k, -9223372036854775808 ≤ m.su.getD k 0 ∧ m.su.getD k 0 ≤ 9223372036854775807) → IntsAt w ao m.su → Calls Try.prog 9 #[.agg (msC m (.slice ao n c))] w fun e w' => e = .returned (.tuple #[.string (encX m), .int .i64 (encE m)]) ∧ Below w.heap.size w w'
  dec : ∀ (d : ByteArray) (w : World), d.size ≤ 100000 → Calls Try.prog 12 #[.string d] w fun e w' => (∃ ao c, e = decA d (decE d) ao c ∧ IntsAt w' ao (decM d).su ∧ (decM d).su.length ≤ c) ∧ Below w.heap.size w w'
theorem infoMsgH : (Try.prog.info? 24).map (fun i => (i.zero, i.size)) = some (some (.agg zM), 6) := by kernel_rfl
theorem sizeMsgH (m : HMsg) (v : Value) : (Try.prog.info? 24).map (·.size) = some (msC m v).size := by
  have h := infoMsgH
  cases hq : Try.prog.info? 24 with
  | none => rw [hq] at h; cases h
  | some i =>
    rw [hq] at h
    simp only [Option.map_some, Option.some.injEq, Prod.mk.injEq] at h ⊢
    rw [h.2]; rfl
def askM : HMsg := ⟨24, emB, emB, [], emB, true⟩
theorem aw_e1 : encX (kM 8) = ⟨#[8, 0, 0, 2, 0, 0]⟩ ∧ encE (kM 8) = 0 := ⟨by kernel_rfl, by kernel_rfl⟩
theorem aw_e2 : encX askM = ⟨#[24, 0, 0, 1, 1]⟩ ∧ encE askM = 0 := ⟨by kernel_rfl, by kernel_rfl⟩
theorem aw_d1 : decE ⟨#[8, 0, 0, 2, 0, 1]⟩ = 11 := by kernel_rfl
theorem aw_d2 : decE ⟨#[8, 0, 0]⟩ = 33 := by kernel_rfl
theorem aw_r1 : zM.setIfInBounds 0 (.int .i64 8) = msC (kM 8) (.slice none 0 0) := rfl
theorem aw_r2 : (zM.setIfInBounds 0 (.int .i64 24)).setIfInBounds 5 (.bool true) = msC askM (.slice none 0 0) := rfl
set_option maxHeartbeats 4000000 in
theorem heawake_of (C : HeCalls) (w : World) :
    Calls Try.prog 8 #[] w fun e w' => e = .returned (.bool true) ∧ Below w.heap.size w w' := by
  obtain ⟨hzz, -⟩ := zero_of_info infoMsgH
  have C1 := Lib.hid (fun W => C.enc (kM 8) none 0 0 W rfl (by decide) (by decide) (by decide) (by decide) (fun k => by simp [kM]) (IntsAt.nil _ _))
  have C2 := Lib.hid (fun W => C.enc askM none 0 0 W rfl (by decide) (by decide) (by decide) (by decide) (fun k => by simp [askM]) (IntsAt.nil _ _))
  have D1 := Lib.hid (fun W => C.dec ⟨#[8, 0, 0, 2, 0, 1]⟩ W (by decide))
  have D2 := Lib.hid (fun W => C.dec ⟨#[8, 0, 0]⟩ W (by decide))
  rw [aw_e1.1, aw_e1.2] at C1
  rw [aw_e2.1, aw_e2.2] at C2
  rw [aw_d1] at D1
  rw [aw_d2] at D2
  have r1 := aw_r1
  have r2 := aw_r2
  have hb := Below.refl w.heap.size w
  go_enter Try.func8, Try.ntmps8
  go_wp2_with fail
  refine (C1.out w).mono ?_
  rintro e W1 ⟨rfl, bk⟩
  replace hb := hb.trans (bk.mono hb.size)
  clear bk C1
  go_wp2_with fail
  refine (C2.out W1).mono ?_
  rintro e W2 ⟨rfl, bk⟩
  replace hb := hb.trans (bk.mono hb.size)
  clear bk C2 r1 r2
  go_wp2_with fail
  refine (D1.out W2).mono ?_
  rintro e W3 ⟨⟨ao, c, rfl, -, -⟩, bk⟩
  replace hb := hb.trans (bk.mono hb.size)
  unfold decA
  generalize decM ⟨#[8, 0, 0, 2, 0, 1]⟩ = m1 at *
  generalize decR ⟨#[8, 0, 0, 2, 0, 1]⟩ = s1 at *
  generalize m1.su.length = n1 at *
  have H3 := Lib.hid (blk_new W3 (.cells zM 24))
  have bk3 := below_setRow (below_new W3 (.cells zM 24)) (Nat.le_refl _) (msC m1 (.slice ao n1 c))
  have hb3 := hb.trans (bk3.mono hb.size)
  clear bk D1 bk3
  go_wp2_with (with_reducible refine wpList_store_row rfl 24 _ _ rfl W3.heap.size (msC m1 (.slice ao n1 c)) rfl rfl 24 _ H3.out (sizeMsgH _ _) rfl (oneMsg _ _ _ _) ?_)
  generalize World.setRow _ _ _ = W4 at *
  clear H3 hb
  refine (D2.out W4).mono ?_
  rintro e W5 ⟨⟨ao2, c2, rfl, -, -⟩, bk⟩
  have hb := hb3.trans (bk.mono hb3.size)
  unfold decA
  generalize decM ⟨#[8, 0, 0]⟩ = m2 at *
  generalize decR ⟨#[8, 0, 0]⟩ = s2 at *
  generalize m2.su.length = n2 at *
  have H3 := Lib.hid (blk_new W5 (.cells zM 24))
  have bk3 := below_setRow (below_new W5 (.cells zM 24)) (Nat.le_refl _) (msC m2 (.slice ao2 n2 c2))
  have hb5 := hb.trans (bk3.mono hb.size)
  clear bk D2 bk3
  go_wp2_with (with_reducible refine wpList_store_row rfl 24 _ _ rfl W5.heap.size (msC m2 (.slice ao2 n2 c2)) rfl rfl 24 _ H3.out (sizeMsgH _ _) rfl (oneMsg _ _ _ _) ?_)
  go_ret
  exact ⟨rfl, hb5⟩
end Go.Proofs.Ytjemikbnncfonaa
