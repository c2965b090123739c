/- The program's products of numbers and bytes: scaled, numberOf. -/
import Derived.Test.YtjgpcfjnanideaaDoorScaRed
namespace Go.Proofs.YtjgpcfjnanideaaDoor
open Go.RowKit Go.Sort
set_option maxRecDepth 100000
set_option linter.unusedSimpArgs false
set_option linter.unusedVariables false

theorem nuC_low (X : Nat) (hX : X < lF) (j : Nat) : 0 ≤ (limI 7 (X : Int)).getD j 0 ∧ (limI 7 (X : Int)).getD j 0 < 68719476736 := by
  by_cases h : j < 7
  · exact limI_low 7 _ j h
  · by_cases h7 : j = 7
    · subst h7
      rw [limI_end]
      have e : lF = 7237005577332262213973186563042994240857116359379907606001950938285454250989 := rfl
      rw [e] at hX
      omega
    · rw [List.getD_eq_getElem?_getD, List.getElem?_eq_none (by rw [limI_length]; omega)]
      decide
theorem byte_prod (x b : Int) (hx : 0 ≤ x ∧ x < 68719476736) (hb : 0 ≤ b ∧ b ≤ 256) : 0 ≤ x * b ∧ x * b ≤ 17592186044416 := by
  have e1 : x * b ≤ x * 256 := Int.mul_le_mul_of_nonneg_left hb.2 hx.1
  have e2 : 0 ≤ x * b := Int.mul_nonneg hx.1 hb.1
  omega
theorem nuC_nought : izeros8 = nuC ((0 : Nat) : Int) := by rw [nuC, show limI 7 ((0 : Nat) : Int) = List.replicate 8 0 by decide +kernel]; rfl

set_option maxHeartbeats 4000000 in
theorem scaledN_any (A : Nat) (s : ByteArray) (w : World) (hA : A < lF) (hs : s.size ≤ 1000) (hT : OrdQ w) :
    Calls Tryd.prog 26 #[.agg (nuC (A : Int)), .string s] w fun e w' => e = .returned (.agg (nuC ((A * nV s.data.toList % lF : Nat) : Int))) ∧ Below w.heap.size w w' := by
  obtain ⟨hz, hi⟩ := zero_of_info infoN
  have hb0 := below_new3 w (.cells (nuC (A : Int)) 33) (.cells izeros8 33) (.cells izeros8 33)
  have HP := Lib.hid (hT.step hb0)
  have H2 := Lib.hid (blk_old (o := .cells izeros8 33) (blk_old (o := .cells izeros8 33) (blk_new w (.cells (nuC (A : Int)) 33))))
  have H3 := Lib.hid (blk_old (o := .cells izeros8 33) (blk_new2 w (.cells (nuC (A : Int)) 33) (.cells izeros8 33)))
  have H4 := Lib.hid (blk_new3 w (.cells (nuC (A : Int)) 33) (.cells izeros8 33) (.cells izeros8 33))
  have IA := Lib.hid (nuC_size (A : Int))
  have HAl := Lib.hid hA
  have hsz : s.data.toList.length = s.size := by simp
  have HSZ := Lib.hid hsz
  have HST : Hid (izeros8 = nuC ((A * nV (s.data.toList.drop s.size) % lF : Nat) : Int)) := Lib.hid (by
    rw [List.drop_of_length_le (by omega), show nV [] = 0 from rfl, Nat.mul_zero, Nat.zero_mod]
    exact nuC_nought)
  have HQ := Lib.hid hT.lt
  have hw1 : wrap64 ((s.size : Int) - 1) = (s.size : Int) - 1 := by unfold wrap64; omega
  clear hi hT hA hsz
  go_enter Tryd.func26, Tryd.ntmps26
  go_wp2_with fail
  clear hz
  generalize (((w.alloc _).alloc _).alloc _) = W0 at *
  generalize hBB : w.heap.size = B at *
  have HBB := Lib.hid hBB
  clear hBB
  go_loopw [6] (fun iv wr => ∃ k : Nat, k ≤ s.size ∧ iv = .int .i64 ((k : Int) - 1) ∧ wr.heap[B]? = some (.cells (nuC (A : Int)) 33) ∧ wr.heap[B + 1]? = some (.cells izeros8 33) ∧ wr.heap[B + 1 + 1]? = some (.cells (nuC ((A * nV (s.data.toList.drop k) % lF : Nat) : Int)) 33) ∧ OrdQ wr ∧ Below B w wr) (fun iv _ => (intOf iv + 1).toNat)
  case atStart => exact ⟨s.size, Nat.le_refl _, rfl, H2.out, H3.out, by rw [← HST.out]; exact H4.out, HP.out, hb0⟩
  case round =>
    clear H2 H3 H4 hb0 HP HST
    obtain ⟨k, hk, rfl, h2, h3, h4, hp, hb⟩ := hrel
    have H2 := Lib.hid h2; have H3 := Lib.hid h3; have H4 := Lib.hid h4; have HP := Lib.hid hp
    clear h2 h3 h4 hp
    by_cases hk0 : k = 0
    · subst hk0
      have hd : decide ((0 : Int) ≤ ((0 : Nat) : Int) - 1) = false := by decide
      rw [List.drop_zero] at H4
      generalize hr : ((A * nV s.data.toList % lF : Nat) : Int) = r at *
      have HRr := Lib.hid hr
      clear hr
      have Ir := Lib.hid (nuC_size r); have Zr := Lib.hid (nuC_zero r); have Or := Lib.hid (nuC_one r)
      go_wp2_with (first
        | (with_reducible refine wpList_load_row rfl 33 _ rfl (B + 1 + 1) rfl 33 _ (0, 0) _ H4.out Tryd.underlying33 rfl Ir.out ?_)
        | (with_reducible refine wpList_store_row rfl 33 _ _ rfl (B + 1) (nuC r) rfl rfl 33 _ H3.out Ir.out Zr.out Or.out ?_))
      exact bodyPost_ret (v := .agg (nuC r)) (results_cell_row (by rfl) _ _ (B + 1) 33 _ (0, 0) _ rfl (setRow_heap _ _ _ _ _ _ H3.out) Tryd.underlying33 rfl Ir.out) rfl ⟨by rw [HRr.out], by rw [HBB.out]; exact below_setRow hb (by omega) _⟩
    · obtain ⟨t, rfl⟩ : ∃ t, k = t + 1 := ⟨k - 1, by omega⟩
      have hcast : ((t + 1 : Nat) : Int) - 1 = (t : Int) := by omega
      rw [hcast]
      have hd : decide ((0 : Int) ≤ (t : Int)) = true := by simp
      have hin : t < s.size := by omega
      have hgb : s.data.toList.getD t 0 = s[t] := by rw [List.getD_eq_getElem?_getD, Array.getElem?_toList]; simp [hin]; rfl
      have hdr := nV_drop s.data.toList t (by rw [HSZ.out]; exact hin)
      rw [hgb] at hdr
      have hS : A * nV (s.data.toList.drop (t + 1)) % lF < lF := Nat.mod_lt _ lF_pos
      have hmore := nV_more A (nV (s.data.toList.drop (t + 1))) s[t].toNat
      rw [← hdr] at hmore
      have hb8 := UInt8.toNat_lt s[t]
      have HB8 := Lib.hid hb8
      generalize hSS : A * nV (s.data.toList.drop (t + 1)) % lF = S at *
      generalize hRR : A * nV (s.data.toList.drop t) % lF = R at *
      have HRR := Lib.hid hRR
      clear hRR
      generalize hbb : s[t].toNat = b at *
      have hwb : IntKind.i64.wrap (b : Int) = (b : Int) := by rw [IntKind.wrap_i64]; omega
      have hA := HAl.out
      have hrb : 256 * S + b * A < 511 * lF := by
        have : b * A ≤ 255 * A := Nat.mul_le_mul_right _ (by omega)
        omega
      have C1 := Lib.hid (fun W => timesN_any (limI 7 (S : Int)) 256 W (limI_length 7 _) (fun j hj => by have := byte_prod _ 256 (nuC_low S hS j) (by omega); omega))
      have C2 := Lib.hid (fun W => timesN_any (limI 7 (A : Int)) (b : Int) W (limI_length 7 _) (fun j hj => by have := byte_prod _ (b : Int) (nuC_low A hA j) (by omega); omega))
      have hbnd : ∀ j, j < 8 → 0 ≤ (tmI (limI 7 (S : Int)) 256).getD j 0 + (tmI (limI 7 (A : Int)) (b : Int)).getD j 0 ∧ (tmI (limI 7 (S : Int)) 256).getD j 0 + (tmI (limI 7 (A : Int)) (b : Int)).getD j 0 ≤ 35184372088832 := fun j hj => by
        have h1 := byte_prod _ 256 (nuC_low S hS j) (by omega)
        have h2 := byte_prod _ (b : Int) (nuC_low A hA j) (by omega)
        rw [tmI_get, tmI_get]
        omega
      have l1 : (tmI (limI 7 (S : Int)) 256).length = 8 := by rw [tmI_length, limI_length]
      have l2 : (tmI (limI 7 (A : Int)) (b : Int)).length = 8 := by rw [tmI_length, limI_length]
      have C3 := Lib.hid (fun W => plusN_any (tmI (limI 7 (S : Int)) 256) (tmI (limI 7 (A : Int)) (b : Int)) W l1 l2 (fun j hj => by have := hbnd j hj; omega))
      have C4 := Lib.hid (fun W => reducedN_any (adI (tmI (limI 7 (S : Int)) 256) (tmI (limI 7 (A : Int)) (b : Int))) (256 * S + b * A) W (adI_length _ _ 8 l1 l2) (fun j hj => by
        have := hbnd j hj
        rw [adI_get _ _ _ (by omega) (by omega)]
        omega) (by
        rw [adI_val _ _ (by rw [l1, l2]), tmI_val, tmI_val, limI_val, limI_val]
        have : ((256 * S + b * A : Nat) : Int) = 256 * (S : Int) + (b : Int) * (A : Int) := by simp
        rw [this, Int.mul_comm (A : Int), Int.mul_comm (S : Int)]) hrb)
      rw [hmore] at C4
      have IS := Lib.hid (nuC_size (S : Int)); have IR := Lib.hid (nuC_size (R : Int)); have ZR : Hid ((nuC (S : Int)).size = (nuC (R : Int)).size) := Lib.hid ((nuC_zero _).symm.trans (nuC_zero _)); have OR := Lib.hid (nuC_one (R : Int))
      have e1 : ic (limI 7 (S : Int)) = nuC (S : Int) := rfl
      have e2 : ic (limI 7 (A : Int)) = nuC (A : Int) := rfl
      rw [e1] at C1
      rw [e2] at C2
      clear hmore hrb hbnd l1 l2 e1 e2 hdr hgb hS hA hcast
      generalize tmI (limI 7 (S : Int)) 256 = t1 at *
      generalize tmI (limI 7 (A : Int)) (b : Int) = t2 at *
      generalize adI t1 t2 = t3 at *
      obtain ⟨Bs, hBs⟩ : ∃ x : Int, x = (b : Int) := ⟨_, rfl⟩
      go_wp2_with fail
      refine wp_region_fresh 10 25 [.val (.agg (nuC (S : Int))) [(5, .pointer (some ⟨B + 1 + 1, 0, none⟩))], .val (.agg (ic t1)) [(14, .agg (nuC (S : Int)))], .val (.agg (nuC (A : Int))) [(2, .pointer (some ⟨B, 0, none⟩))],
        .val (.string s) [(1, .string s)], .val (.int .i64 (t : Int)) [(6, .int .i64 (t : Int))], .val (.int .u8 (b : Int)) [(17, .string s), (18, .int .i64 (t : Int))], .val (.int .i64 (b : Int)) [(19, .int .u8 (b : Int))],
        .val (.agg (ic t2)) [(16, .agg (nuC (A : Int))), (20, .int .i64 (b : Int))], .val (.agg (ic t3)) [(15, .agg (ic t1)), (21, .agg (ic t2))], .val (.agg (nuC (R : Int))) [(22, .agg (ic t3))]]
        (by kernel_rfl) (by kernel_rfl) rfl ?_ ?_ ?_
      · simp only [List.take_succ_cons, List.take_zero, headObl, specObl, HeadSpec.val, HeadSpec.fresh, and_true]
        refine ⟨?_, ?_, ?_, ?_, ?_, ?_, ?_, ?_, ?_, ?_⟩
        · intro a w hb h
          have e0 := h (5, .pointer (some ⟨B + 1 + 1, 0, none⟩)) (by simp)
          exact sQuiet_load_row 33 (.tmp 5) rfl (B + 1 + 1) e0 33 _ (0, 0) _ (blk_below hb (blk_lt H4.out) H4.out) Tryd.underlying33 rfl IS.out
        · intro a w hb h
          have e0 := h (14, .agg (nuC (S : Int))) (by simp)
          simp only [Array.getD_eq_getD_getElem?] at e0
          simp [go_sem, e0, sQuiet]
          exact C1.out w
        · intro a w hb h
          have e0 := h (2, .pointer (some ⟨B, 0, none⟩)) (by simp)
          exact sQuiet_load_row 33 (.tmp 2) rfl B e0 33 _ (0, 0) _ (blk_below hb (blk_lt H2.out) H2.out) Tryd.underlying33 rfl IA.out
        · intro a w hb h
          have e0 := h (1, .string s) (by simp)
          simp only [Array.getD_eq_getD_getElem?] at e0
          simp [go_sem, e0, sQuiet]
        · intro a w hb h
          have e0 := h (6, .int .i64 (t : Int)) (by simp)
          simp only [Array.getD_eq_getD_getElem?] at e0
          simp [go_sem, e0, sQuiet]
        · intro a w hb h
          have e0 := h (17, .string s) (by simp)
          have e1 := h (18, .int .i64 (t : Int)) (by simp)
          simp only [Array.getD_eq_getD_getElem?] at e0 e1
          simp [go_sem, e0, e1, sQuiet, hin, hbb]
        · intro a w hb h
          have e0 := h (19, .int .u8 (b : Int)) (by simp)
          simp only [Array.getD_eq_getD_getElem?] at e0
          simp [go_sem, e0, sQuiet, hwb]
        · intro a w hb h
          have e0 := h (16, .agg (nuC (A : Int))) (by simp)
          have e1 := h (20, .int .i64 (b : Int)) (by simp)
          simp only [Array.getD_eq_getD_getElem?] at e0 e1
          simp [go_sem, e0, e1, sQuiet]
          exact C2.out w
        · intro a w hb h
          have e0 := h (15, .agg (ic t1)) (by simp)
          have e1 := h (21, .agg (ic t2)) (by simp)
          simp only [Array.getD_eq_getD_getElem?] at e0 e1
          simp [go_sem, e0, e1, sQuiet]
          exact C3.out w
        · intro a w hb h
          have e0 := h (22, .agg (ic t3)) (by simp)
          simp only [Array.getD_eq_getD_getElem?] at e0
          simp [go_sem, e0, sQuiet]
          exact C4.out w (HP.out.step hb)
      · simp [headReads, headPut, specV, HeadSpec.val, HeadSpec.fresh, Act.put]
      · simp only [List.take_succ_cons, List.take_zero, List.drop_succ_cons, List.drop_zero, headEnd, HeadSpec.val, HeadSpec.fresh, Act.put, List.setIfInBounds_toArray, List.set_cons_succ, List.set_cons_zero]
        intro v1 hv1 hgs
        have hl4 := blk_lt H4.out
        have H2b := Lib.hid (blk_below hv1 (blk_lt H2.out) H2.out)
        have H3b := Lib.hid (blk_below hv1 (blk_lt H3.out) H3.out)
        have H4b := Lib.hid (blk_below hv1 hl4 H4.out)
        have HPb := HP.out.step hv1
        have hb1 : Below B w v1 := hb.trans (hv1.mono (by omega))
        have H4c := Lib.hid (setRow_heap v1 (B + 1 + 1) _ (nuC (R : Int)) _ _ H4b.out)
        have H2c : Hid ((v1.setRow (B + 1 + 1) (nuC (R : Int))).heap[B]? = some (.cells (nuC (A : Int)) 33)) := Lib.hid (by rw [setRow_other _ _ _ _ (by omega)]; exact H2b.out)
        have H3c : Hid ((v1.setRow (B + 1 + 1) (nuC (R : Int))).heap[B + 1]? = some (.cells izeros8 33)) := Lib.hid (by rw [setRow_other _ _ _ _ (by omega)]; exact H3b.out)
        have hb2 : Below B w (v1.setRow (B + 1 + 1) (nuC (R : Int))) := below_setRow hb1 (by omega) _
        have HPc := Lib.hid (HPb.below (below_setRow (Below.refl B v1) (show B ≤ B + 1 + 1 by omega) (nuC (R : Int))) HQ.out)
        clear H2 H3 H4 HP hb1 hv1 hgs hb H2b H3b HPb hl4
        go_wp2_with (with_reducible refine wpList_store_row rfl 33 _ _ rfl (B + 1 + 1) (nuC (R : Int)) rfl rfl 33 _ H4b.out IR.out ZR.out OR.out ?_)
        go_roundw
        case rel => exact ⟨t, by omega, by go_num, H2c.out, H3c.out, by rw [HRR.out]; exact H4c.out, HPc.out, hb2⟩
        case measure => simp [intOf] <;> omega
end Go.Proofs.YtjgpcfjnanideaaDoor
