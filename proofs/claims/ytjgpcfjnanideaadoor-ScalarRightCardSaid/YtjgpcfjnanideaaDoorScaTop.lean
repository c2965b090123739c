/- The program's Wide, Right and MulAdd. -/
import Derived.Test.YtjgpcfjnanideaaDoorScaOut
import Derived.Test.YtjgpcfjnanideaaDoorScaTxt
namespace Go.Proofs.YtjgpcfjnanideaaDoor
open Go.RowKit Go.Sort
set_option maxRecDepth 100000
set_option linter.unusedSimpArgs false
set_option linter.unusedVariables false

set_option maxHeartbeats 1000000 in
theorem wide_any (s : ByteArray) (w : World) (hT : OrdQ w) :
    Calls Tryd.prog 9 #[.string s] w fun e w' => e = .returned (.tuple #[.string (wideX s), .int .i64 (wideE s)]) ∧ Below w.heap.size w w' := by
  by_cases h : s.size = 64
  · have hd : ((s.size : Int) != 64) = false := by simp [h]
    have C1 := Lib.hid (fun W hW => numberOf_any s W (by omega) hW)
    have C2 := Lib.hid (fun W => bytesN_any (nV s.data.toList % lF) W)
    have HX : Hid (wideX s = ⟨(leF (nV s.data.toList % lF) 32).toArray⟩ ∧ wideE s = 0) := Lib.hid (by rw [wideX, wideE, if_pos h, if_pos h]; exact ⟨rfl, rfl⟩)
    have HT := Lib.hid hT
    generalize nV s.data.toList % lF = x at *
    clear h hT
    go_enter Tryd.func9, Tryd.ntmps9
    go_wp2_with fail
    refine (C1.out w HT.out).mono ?_
    rintro e W1 ⟨rfl, b1⟩
    go_wp2_with fail
    refine (C2.out W1).mono ?_
    rintro e W2 ⟨rfl, b2⟩
    have b2 := b1.trans (b2.mono b1.size)
    go_wp2_with fail
    go_ret2
    exact ⟨by rw [HX.out.1, HX.out.2]; rfl, b2⟩
  · have hd : ((s.size : Int) != 64) = true := by simp; omega
    have HX : Hid (wideX s = ⟨#[]⟩ ∧ wideE s = 1) := Lib.hid (by rw [wideX, wideE, if_neg h, if_neg h]; exact ⟨rfl, rfl⟩)
    clear h
    go_enter Tryd.func9, Tryd.ntmps9
    go_wp2_with fail
    go_ret2
    exact ⟨by rw [HX.out.1, HX.out.2]; rfl, Below.refl _ _⟩

set_option maxHeartbeats 1000000 in
theorem right_any (s : ByteArray) (w : World) (hT : OrdQ w) :
    Calls Tryd.prog 12 #[.string s] w fun e w' => e = .returned (.bool (okR s)) ∧ Below w.heap.size w w' := by
  by_cases h : s.size = 32
  · have hd : ((s.size : Int) == 32) = true := by simp [h]
    have C1 := Lib.hid (fun W hW => numberOf_any s W (by omega) hW)
    have C2 := Lib.hid (fun W => bytesN_any (nV s.data.toList % lF) W)
    have hok : ((⟨(leF (nV s.data.toList % lF) 32).toArray⟩ : ByteArray).toList == s.toList) = okR s := by
      rw [Lib.toList_data, Lib.toList_data, okR, show (⟨(leF (nV s.data.toList % lF) 32).toArray⟩ : ByteArray).data.toList = leF (nV s.data.toList % lF) 32 from rfl, right_same _ (by rw [← Lib.size_eq]; exact h), h]
      simp
    have HT := Lib.hid hT
    generalize (⟨(leF (nV s.data.toList % lF) 32).toArray⟩ : ByteArray) = t at *
    generalize nV s.data.toList % lF = x at *
    generalize okR s = q at *
    clear h hT
    go_enter Tryd.func12, Tryd.ntmps12
    go_wp2_with fail
    refine (C1.out w HT.out).mono ?_
    rintro e W1 ⟨rfl, b1⟩
    go_wp2_with fail
    refine (C2.out W1).mono ?_
    rintro e W2 ⟨rfl, b2⟩
    have b2 := b1.trans (b2.mono b1.size)
    go_wp2_with fail
    go_ret
    exact ⟨rfl, b2⟩
  · have hd : ((s.size : Int) == 32) = false := by simp; omega
    have hok : okR s = false := by rw [okR, decide_eq_false h]; rfl
    have HX := Lib.hid hok
    clear h hok
    go_enter Tryd.func12, Tryd.ntmps12
    go_wp2_with fail
    go_ret
    exact ⟨by rw [HX.out]; rfl, Below.refl _ _⟩

set_option maxHeartbeats 1000000 in
theorem mulAddOk_any (a b c : ByteArray) (w : World) (ha : a.size = 32) (hb : b.size = 32) (hc : c.size = 32) (hT : OrdQ w) :
    Calls Tryd.prog 14 #[.string a, .string b, .string c] w fun e w' => e = .returned (.tuple #[.string (txtN ((nV a.data.toList * nV b.data.toList + nV c.data.toList) % lF)), .int .i64 0]) ∧ Below w.heap.size w w' := by
  have d1 : ((a.size : Int) != 32) = false := by simp [ha]
  have d2 : ((b.size : Int) != 32) = false := by simp [hb]
  have d3 : ((c.size : Int) != 32) = false := by simp [hc]
  have hmod := ma_mod (nV a.data.toList) (nV b.data.toList) (nV c.data.toList)
  have hB : nV b.data.toList % lF < lF := Nat.mod_lt _ lF_pos
  have hC : nV c.data.toList % lF < lF := Nat.mod_lt _ lF_pos
  have hS : nV b.data.toList % lF * nV a.data.toList % lF < lF := Nat.mod_lt _ lF_pos
  have C1 := Lib.hid (fun W hW => numberOf_any b W (by omega) hW)
  have C2 := Lib.hid (fun W hW => scaledN_any (nV b.data.toList % lF) a W hB (by omega) hW)
  have C3 := Lib.hid (fun W hW => numberOf_any c W (by omega) hW)
  generalize nV b.data.toList % lF * nV a.data.toList % lF = S at *
  generalize nV c.data.toList % lF = C at *
  have hbnd : ∀ j, j < 8 → 0 ≤ (limI 7 (S : Int)).getD j 0 + (limI 7 (C : Int)).getD j 0 ∧ (limI 7 (S : Int)).getD j 0 + (limI 7 (C : Int)).getD j 0 ≤ 137438953472 := fun j hj => by
    have h1 := nuC_low S hS j
    have h2 := nuC_low C hC j
    omega
  have C4 := Lib.hid (fun W => plusN_any (limI 7 (S : Int)) (limI 7 (C : Int)) W (limI_length 7 _) (limI_length 7 _) (fun j hj => by have := hbnd j hj; omega))
  have C5 := Lib.hid (fun W hW => reducedN_any (adI (limI 7 (S : Int)) (limI 7 (C : Int))) (S + C) W (adI_length _ _ 8 (limI_length 7 _) (limI_length 7 _)) (fun j hj => by
    have := hbnd j hj
    rw [adI_get _ _ _ (by rw [limI_length]; omega) (by rw [limI_length]; omega)]
    omega) (by rw [adI_val _ _ (by rw [limI_length, limI_length]), limI_val, limI_val]; simp) (by omega) hW)
  have C6 := Lib.hid (fun W => bytesN_any ((S + C) % lF) W)
  rw [show ic (limI 7 (S : Int)) = nuC (S : Int) from rfl, show ic (limI 7 (C : Int)) = nuC (C : Int) from rfl] at C4
  generalize adI (limI 7 (S : Int)) (limI 7 (C : Int)) = t at *
  rw [hmod] at C5 C6
  generalize nV b.data.toList % lF = B at *
  generalize hr : (nV a.data.toList * nV b.data.toList + nV c.data.toList) % lF = r at *
  have HRr := Lib.hid hr
  have HT := Lib.hid hT
  clear hr hmod hB hC hS hbnd hT ha hb hc
  go_enter Tryd.func14, Tryd.ntmps14
  go_wp2_with fail
  refine (C1.out w HT.out).mono ?_
  rintro e W1 ⟨rfl, bk⟩
  have hb := bk
  have HP := Lib.hid (HT.out.step bk)
  clear bk HT
  go_wp2_with fail
  refine (C2.out W1 HP.out).mono ?_
  rintro e W2 ⟨rfl, bk⟩
  replace hb := hb.trans (bk.mono hb.size)
  replace HP := Lib.hid (HP.out.step bk)
  clear bk
  go_wp2_with fail
  refine (C3.out W2 HP.out).mono ?_
  rintro e W3 ⟨rfl, bk⟩
  replace hb := hb.trans (bk.mono hb.size)
  replace HP := Lib.hid (HP.out.step bk)
  clear bk
  go_wp2_with fail
  refine (C4.out W3).mono ?_
  rintro e W4 ⟨rfl, bk⟩
  replace hb := hb.trans (bk.mono hb.size)
  replace HP := Lib.hid (HP.out.step bk)
  clear bk
  go_wp2_with fail
  refine (C5.out W4 HP.out).mono ?_
  rintro e W5 ⟨rfl, bk⟩
  replace hb := hb.trans (bk.mono hb.size)
  clear bk HP
  go_wp2_with fail
  refine (C6.out W5).mono ?_
  rintro e W6 ⟨rfl, bk⟩
  replace hb := hb.trans (bk.mono hb.size)
  clear bk
  go_wp2_with fail
  go_ret2
  exact ⟨by first | rfl | (rw [HRr.out]; rfl), hb⟩
set_option maxHeartbeats 1000000 in
theorem mulAddBad_any (a b c : ByteArray) (w : World) (h : ¬ okM a b c) :
    Calls Tryd.prog 14 #[.string a, .string b, .string c] w fun e w' => e = .returned (.tuple #[.string ⟨#[]⟩, .int .i64 1]) ∧ w' = w := by
  by_cases ha : a.size = 32
  · have d1 : ((a.size : Int) != 32) = false := by simp [ha]
    by_cases hb : b.size = 32
    · have hc : c.size ≠ 32 := fun hc => h ⟨ha, hb, hc⟩
      have d2 : ((b.size : Int) != 32) = false := by simp [hb]
      have d3 : ((c.size : Int) != 32) = true := by simp; omega
      clear h ha hb hc
      go_enter Tryd.func14, Tryd.ntmps14
      go_wp2_with fail
      go_ret2
      exact ⟨rfl, rfl⟩
    · have d2 : ((b.size : Int) != 32) = true := by simp; omega
      clear h ha hb
      go_enter Tryd.func14, Tryd.ntmps14
      go_wp2_with fail
      go_ret2
      exact ⟨rfl, rfl⟩
  · have d1 : ((a.size : Int) != 32) = true := by simp; omega
    clear h ha
    go_enter Tryd.func14, Tryd.ntmps14
    go_wp2_with fail
    go_ret2
    exact ⟨rfl, rfl⟩
theorem mulAdd_any (a b c : ByteArray) (w : World) (hT : OrdQ w) :
    Calls Tryd.prog 14 #[.string a, .string b, .string c] w fun e w' => e = .returned (.tuple #[.string (maX a b c), .int .i64 (maE a b c)]) ∧ Below w.heap.size w w' := by
  by_cases h : okM a b c
  · rw [maX, maE, if_pos h, if_pos h]
    exact mulAddOk_any a b c w h.1 h.2.1 h.2.2 hT
  · rw [maX, maE, if_neg h, if_neg h]
    exact (mulAddBad_any a b c w h).mono fun e w' ⟨h1, h2⟩ => ⟨h1, h2 ▸ Below.refl _ _⟩
end Go.Proofs.YtjgpcfjnanideaaDoor
