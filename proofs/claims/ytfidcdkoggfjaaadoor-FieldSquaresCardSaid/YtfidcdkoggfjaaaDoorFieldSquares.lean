/- FieldSquares: for every text, if its number has a root then the root's square is the number, and the root is even; else it is 0; the chapter's examples hold. No condition; the prime of package field lies as the program's text lays it. -/
import Derived.Test.YtfidcdkoggfjaaaDoorCards
import Derived.Test.YtfidcdkoggfjaaaDoorTie
import Derived.SevenTiedAt
import Derived.Test.YtfidcdkoggfjaaaDoorFldWake
import Derived.Test.YtfidcdkoggfjaaaDoorFresh
namespace Go.Proofs.YtfidcdkoggfjaaaDoor
open Go.ChangeShapes Go.WideShapes Go.ChangeAt Go.WideMaps Go.WideElems Go.RowKit
open Go.ChangeMaps (open_string shut_string)
set_option maxRecDepth 100000
set_option linter.unusedSimpArgs false
set_option linter.unusedVariables false

theorem even_byte (r : Nat) (h : r % 2 = 0) : (⟨(leF r 32).toArray⟩ : ByteArray).size = 32 ∧ ∀ h, (((⟨(leF r 32).toArray⟩ : ByteArray)[0]'h).toNat : Int) % 2 = 0 := by
  have hl := leF_length r 32
  refine ⟨hl, fun h0 => ?_⟩
  have e : ((⟨(leF r 32).toArray⟩ : ByteArray)[0]'h0) = UInt8.ofNat (r / 256 ^ 0) := by
    have := leF_get r 32 0 (by decide)
    rw [List.getD_eq_getElem?_getD, List.getElem?_eq_getElem (by omega)] at this
    show (leF r 32).toArray[0] = _
    simpa using this
  rw [e, Nat.pow_zero, Nat.div_one, UInt8.toNat_ofNat']
  omega
set_option maxHeartbeats 4000000 in
theorem fieldSquares_any (s0 : ByteArray) (w : World) (_ : s0.size ≤ maxLen) (hT : PrmQ w) :
    Calls Tryd.prog 9 #[.string s0] w fun e w' => e = .returned (.bool true) ∧ Below w.heap.size w w' := by
  by_cases h0 : s0.size = 32
  · have P0 := Lib.hid (fun W => of_any s0 W h0)
    have hx0 : leV s0.data.toList 32 % pF < pF := Nat.mod_lt _ pF_pos
    generalize leV s0.data.toList 32 % pF = x0 at *
    have t0 : ((s0.size : Int) != 32) = false := by simp [h0]
    have I0 := Lib.hid (sizeF' x0); have Z0 := Lib.hid (zerosF_size x0); have O0 := Lib.hid (uc_one (limN 4 x0))
    clear h0
    by_cases hh : (rootF x0).2 = true
    · obtain ⟨hsq, hev⟩ := rootF_square x0 hh
      obtain ⟨hs32, hs0⟩ := even_byte _ hev
      have hrl := rootF_lt x0
      have Cm := Lib.hid (fun W => mulF_any (rootF x0).1 (rootF x0).1 W hrl hrl)
      rw [hsq] at Cm
      have Bx := Lib.hid (fun W => bytesF_any x0 W)
      have Cr := Lib.hid (fun W hW => rootF_any x0 W hx0 hW)
      rw [hh] at Cr
      have Br := Lib.hid (fun W => bytesF_any (rootF x0).1 W)
      clear hh hsq hev
      generalize (rootF x0).1 = rr at *
      have Ir := Lib.hid (sizeF' rr); have Zr := Lib.hid (zerosF_size rr); have Or := Lib.hid (uc_one (limN 4 rr))
      generalize (⟨(leF rr 32).toArray⟩ : ByteArray) = zr at *
      have er := same_text zr
      generalize (⟨(leF x0 32).toArray⟩ : ByteArray) = zx at *
      have ex := same_text zx
      have hd32 : ((zr.size : Int) == 32) = true := by rw [hs32]; rfl
      have hpos : (0 : Int) < (zr.size : Int) := by omega
      have hp2 : 0 < zr.size := by omega
      clear hs32
      obtain ⟨hz, _⟩ := zero_of_info infoF
      have HP := Lib.hid hT
      have hb := Below.refl w.heap.size w
      clear hT
      go_enter Tryd.func9, Tryd.ntmps9
      go_wp2_with fail
      refine (P0.out w).mono ?_
      rintro e W1 ⟨rfl, bk⟩
      have hb := hb.trans (bk.mono hb.size)
      have HP := Lib.hid (HP.out.step bk)
      clear bk
      have HN := Lib.hid (blk_new W1 (.cells zeros4 26))
      have bn := below_new W1 (.cells zeros4 26)
      have qG0 := Lib.hid (setRow_heap _ W1.heap.size _ (uc (limN 4 x0)) _ _ HN.out)
      go_wp2_with (first | (with_reducible refine wpList_store_row rfl 26 _ _ rfl W1.heap.size (uc (limN 4 x0)) rfl rfl 26 _ HN.out I0.out Z0.out O0.out ?_) | (with_reducible refine wpList_load_row rfl 26 _ rfl W1.heap.size rfl 26 _ (0, 0) _ qG0.out Tryd.underlying26 rfl I0.out ?_))
      have bk := below_setRow bn (Nat.le_refl _) (uc (limN 4 x0))
      have hb := hb.trans (bk.mono hb.size)
      have HP := Lib.hid (HP.out.step bk)
      have G0 := qG0
      generalize (World.setRow (World.alloc _ _) _ _) = W2 at *
      generalize W1.heap.size = gG0 at *
      clear bk bn HN qG0
      refine (Cr.out W2 HP.out).mono ?_
      rintro e W3 ⟨rfl, bk⟩
      have hb := hb.trans (bk.mono hb.size)
      have HP := Lib.hid (HP.out.step bk)
      have G0 := Lib.hid (blk_below bk (blk_lt G0.out) G0.out)
      clear bk
      have HN := Lib.hid (blk_new W3 (.cells zeros4 26))
      have bn := below_new W3 (.cells zeros4 26)
      have qGr := Lib.hid (setRow_heap _ W3.heap.size _ (uc (limN 4 rr)) _ _ HN.out)
      go_wp2_with (first | (first | (with_reducible refine wpList_store_row rfl 26 _ _ rfl W3.heap.size (uc (limN 4 rr)) rfl rfl 26 _ HN.out Ir.out Zr.out Or.out ?_) | (with_reducible refine wpList_load_row rfl 26 _ rfl W3.heap.size rfl 26 _ (0, 0) _ qGr.out Tryd.underlying26 rfl Ir.out ?_)) | (with_reducible refine wpList_load_row rfl 26 _ rfl gG0 rfl 26 _ (0, 0) _ G0.out Tryd.underlying26 rfl I0.out ?_) | ((with_reducible refine wpList_load_want ?hw 26 _ rfl gG0 rfl 26 _ (0, 0) _ G0.out Tryd.underlying26 rfl I0.out ?_); (case hw => rfl)))
      have bk := below_setRow bn (Nat.le_refl _) (uc (limN 4 rr))
      have hb := hb.trans (bk.mono hb.size)
      have HP := Lib.hid (HP.out.step bk)
      have G0 := Lib.hid (blk_below bk (blk_lt G0.out) G0.out)
      have Gr := qGr
      generalize (World.setRow (World.alloc _ _) _ _) = W4 at *
      generalize W3.heap.size = gGr at *
      clear bk bn HN qGr
      refine wp_region_reads (by kernel_rfl) (by kernel_rfl) ?_
      repeat (first | go_big_quiet_step (first | with_reducible exact Calls.regrown_of (Br.out _) | with_reducible exact Calls.regrown_of (Cm.out _) | with_reducible exact Calls.regrown_of (Bx.out _) | with_reducible exact Calls.regrown_of (fawake_any _ (HP.out.step (below_regrown _ _ _)))) | (refine arr_quiet_load rfl 26 _ rfl ⟨gG0, 0, none⟩ rfl _ (arr_row_regrown 26 gG0 26 _ (0, 0) _ G0.out Tryd.underlying26 rfl I0.out) ?_; simp only [Act.put, List.setIfInBounds_toArray, List.set_cons_succ, List.set_cons_zero]) | (refine arr_quiet_load rfl 26 _ rfl ⟨gGr, 0, none⟩ rfl _ (arr_row_regrown 26 gGr 26 _ (0, 0) _ Gr.out Tryd.underlying26 rfl Ir.out) ?_; simp only [Act.put, List.setIfInBounds_toArray, List.set_cons_succ, List.set_cons_zero]) | quiet_step (first | with_reducible exact Calls.regrown_of (Br.out _) | with_reducible exact Calls.regrown_of (Cm.out _) | with_reducible exact Calls.regrown_of (Bx.out _) | with_reducible exact Calls.regrown_of (fawake_any _ (HP.out.step (below_regrown _ _ _)))))
      refine wpQuiet_nil ?_
      intro W5 bk
      have hb := hb.trans (bk.mono hb.size)
      have HP := Lib.hid (HP.out.step bk)
      have G0 := Lib.hid (blk_below bk (blk_lt G0.out) G0.out)
      have Gr := Lib.hid (blk_below bk (blk_lt Gr.out) Gr.out)
      clear bk
      go_wp2_with (first | (with_reducible refine wpList_load_row rfl 26 _ rfl gG0 rfl 26 _ (0, 0) _ G0.out Tryd.underlying26 rfl I0.out ?_) | ((with_reducible refine wpList_load_want ?hw 26 _ rfl gG0 rfl 26 _ (0, 0) _ G0.out Tryd.underlying26 rfl I0.out ?_); (case hw => rfl)) | (with_reducible refine wpList_load_row rfl 26 _ rfl gGr rfl 26 _ (0, 0) _ Gr.out Tryd.underlying26 rfl Ir.out ?_) | ((with_reducible refine wpList_load_want ?hw 26 _ rfl gGr rfl 26 _ (0, 0) _ Gr.out Tryd.underlying26 rfl Ir.out ?_); (case hw => rfl)))
      go_ret
      exact ⟨rfl, hb⟩
    · have hh : (rootF x0).2 = false := by simpa using hh
      have hz0 := rootF_none x0 hh
      have Cr := Lib.hid (fun W hW => rootF_any x0 W hx0 hW)
      rw [hh] at Cr
      have Br := Lib.hid (fun W => bytesF_any (rootF x0).1 W)
      have C0 : Hid (∀ W, Calls Tryd.prog 19 #[.int .i64 0] W fun e w' => e = .returned (.agg (uc (limN 4 (rootF x0).1))) ∧ Below W.heap.size W w') := Lib.hid (fun W => by have := smallPos_any 0 W (by decide); rw [hz0]; exact this)
      clear hh hz0
      generalize (rootF x0).1 = rr at *
      have Ir := Lib.hid (sizeF' rr); have Zr := Lib.hid (zerosF_size rr); have Or := Lib.hid (uc_one (limN 4 rr))
      generalize (⟨(leF rr 32).toArray⟩ : ByteArray) = zr at *
      have er := same_text zr
      obtain ⟨hz, _⟩ := zero_of_info infoF
      have HP := Lib.hid hT
      have hb := Below.refl w.heap.size w
      clear hT
      go_enter Tryd.func9, Tryd.ntmps9
      go_wp2_with fail
      refine (P0.out w).mono ?_
      rintro e W1 ⟨rfl, bk⟩
      have hb := hb.trans (bk.mono hb.size)
      have HP := Lib.hid (HP.out.step bk)
      clear bk
      have HN := Lib.hid (blk_new W1 (.cells zeros4 26))
      have bn := below_new W1 (.cells zeros4 26)
      have qG0 := Lib.hid (setRow_heap _ W1.heap.size _ (uc (limN 4 x0)) _ _ HN.out)
      go_wp2_with (first | (with_reducible refine wpList_store_row rfl 26 _ _ rfl W1.heap.size (uc (limN 4 x0)) rfl rfl 26 _ HN.out I0.out Z0.out O0.out ?_) | (with_reducible refine wpList_load_row rfl 26 _ rfl W1.heap.size rfl 26 _ (0, 0) _ qG0.out Tryd.underlying26 rfl I0.out ?_))
      have bk := below_setRow bn (Nat.le_refl _) (uc (limN 4 x0))
      have hb := hb.trans (bk.mono hb.size)
      have HP := Lib.hid (HP.out.step bk)
      have G0 := qG0
      generalize (World.setRow (World.alloc _ _) _ _) = W2 at *
      generalize W1.heap.size = gG0 at *
      clear bk bn HN qG0
      refine (Cr.out W2 HP.out).mono ?_
      rintro e W3 ⟨rfl, bk⟩
      have hb := hb.trans (bk.mono hb.size)
      have HP := Lib.hid (HP.out.step bk)
      have G0 := Lib.hid (blk_below bk (blk_lt G0.out) G0.out)
      clear bk
      have HN := Lib.hid (blk_new W3 (.cells zeros4 26))
      have bn := below_new W3 (.cells zeros4 26)
      have qGr := Lib.hid (setRow_heap _ W3.heap.size _ (uc (limN 4 rr)) _ _ HN.out)
      go_wp2_with (first | (first | (with_reducible refine wpList_store_row rfl 26 _ _ rfl W3.heap.size (uc (limN 4 rr)) rfl rfl 26 _ HN.out Ir.out Zr.out Or.out ?_) | (with_reducible refine wpList_load_row rfl 26 _ rfl W3.heap.size rfl 26 _ (0, 0) _ qGr.out Tryd.underlying26 rfl Ir.out ?_)) | (with_reducible refine wpList_load_row rfl 26 _ rfl gG0 rfl 26 _ (0, 0) _ G0.out Tryd.underlying26 rfl I0.out ?_) | ((with_reducible refine wpList_load_want ?hw 26 _ rfl gG0 rfl 26 _ (0, 0) _ G0.out Tryd.underlying26 rfl I0.out ?_); (case hw => rfl)))
      have bk := below_setRow bn (Nat.le_refl _) (uc (limN 4 rr))
      have hb := hb.trans (bk.mono hb.size)
      have HP := Lib.hid (HP.out.step bk)
      have G0 := Lib.hid (blk_below bk (blk_lt G0.out) G0.out)
      have Gr := qGr
      generalize (World.setRow (World.alloc _ _) _ _) = W4 at *
      generalize W3.heap.size = gGr at *
      clear bk bn HN qGr
      refine (Br.out W4).mono ?_
      rintro e W5 ⟨rfl, bk⟩
      have hb := hb.trans (bk.mono hb.size)
      have HP := Lib.hid (HP.out.step bk)
      have G0 := Lib.hid (blk_below bk (blk_lt G0.out) G0.out)
      have Gr := Lib.hid (blk_below bk (blk_lt Gr.out) Gr.out)
      clear bk
      go_wp2_with (first | (with_reducible refine wpList_load_row rfl 26 _ rfl gG0 rfl 26 _ (0, 0) _ G0.out Tryd.underlying26 rfl I0.out ?_) | ((with_reducible refine wpList_load_want ?hw 26 _ rfl gG0 rfl 26 _ (0, 0) _ G0.out Tryd.underlying26 rfl I0.out ?_); (case hw => rfl)) | (with_reducible refine wpList_load_row rfl 26 _ rfl gGr rfl 26 _ (0, 0) _ Gr.out Tryd.underlying26 rfl Ir.out ?_) | ((with_reducible refine wpList_load_want ?hw 26 _ rfl gGr rfl 26 _ (0, 0) _ Gr.out Tryd.underlying26 rfl Ir.out ?_); (case hw => rfl)))
      refine (C0.out W5).mono ?_
      rintro e W6 ⟨rfl, bk⟩
      have hb := hb.trans (bk.mono hb.size)
      have HP := Lib.hid (HP.out.step bk)
      have G0 := Lib.hid (blk_below bk (blk_lt G0.out) G0.out)
      have Gr := Lib.hid (blk_below bk (blk_lt Gr.out) Gr.out)
      clear bk
      go_wp2_with (first | (with_reducible refine wpList_load_row rfl 26 _ rfl gG0 rfl 26 _ (0, 0) _ G0.out Tryd.underlying26 rfl I0.out ?_) | ((with_reducible refine wpList_load_want ?hw 26 _ rfl gG0 rfl 26 _ (0, 0) _ G0.out Tryd.underlying26 rfl I0.out ?_); (case hw => rfl)) | (with_reducible refine wpList_load_row rfl 26 _ rfl gGr rfl 26 _ (0, 0) _ Gr.out Tryd.underlying26 rfl Ir.out ?_) | ((with_reducible refine wpList_load_want ?hw 26 _ rfl gGr rfl 26 _ (0, 0) _ Gr.out Tryd.underlying26 rfl Ir.out ?_); (case hw => rfl)))
      refine (Br.out W6).mono ?_
      rintro e W7 ⟨rfl, bk⟩
      have hb := hb.trans (bk.mono hb.size)
      have HP := Lib.hid (HP.out.step bk)
      have G0 := Lib.hid (blk_below bk (blk_lt G0.out) G0.out)
      have Gr := Lib.hid (blk_below bk (blk_lt Gr.out) Gr.out)
      clear bk
      go_wp2_with (first | (with_reducible refine wpList_load_row rfl 26 _ rfl gG0 rfl 26 _ (0, 0) _ G0.out Tryd.underlying26 rfl I0.out ?_) | ((with_reducible refine wpList_load_want ?hw 26 _ rfl gG0 rfl 26 _ (0, 0) _ G0.out Tryd.underlying26 rfl I0.out ?_); (case hw => rfl)) | (with_reducible refine wpList_load_row rfl 26 _ rfl gGr rfl 26 _ (0, 0) _ Gr.out Tryd.underlying26 rfl Ir.out ?_) | ((with_reducible refine wpList_load_want ?hw 26 _ rfl gGr rfl 26 _ (0, 0) _ Gr.out Tryd.underlying26 rfl Ir.out ?_); (case hw => rfl)))
      refine (fawake_any W7 HP.out).mono ?_
      rintro e W8 ⟨rfl, bk⟩
      have hb := hb.trans (bk.mono hb.size)
      have HP := Lib.hid (HP.out.step bk)
      have G0 := Lib.hid (blk_below bk (blk_lt G0.out) G0.out)
      have Gr := Lib.hid (blk_below bk (blk_lt Gr.out) Gr.out)
      clear bk
      go_wp2_with (first | (with_reducible refine wpList_load_row rfl 26 _ rfl gG0 rfl 26 _ (0, 0) _ G0.out Tryd.underlying26 rfl I0.out ?_) | ((with_reducible refine wpList_load_want ?hw 26 _ rfl gG0 rfl 26 _ (0, 0) _ G0.out Tryd.underlying26 rfl I0.out ?_); (case hw => rfl)) | (with_reducible refine wpList_load_row rfl 26 _ rfl gGr rfl 26 _ (0, 0) _ Gr.out Tryd.underlying26 rfl Ir.out ?_) | ((with_reducible refine wpList_load_want ?hw 26 _ rfl gGr rfl 26 _ (0, 0) _ Gr.out Tryd.underlying26 rfl Ir.out ?_); (case hw => rfl)))
      go_ret
      exact ⟨rfl, hb⟩
  · have P0 := Lib.hid (fun W => ofBad_any s0 W h0)
    have hx0 : 0 < pF := pF_pos
    obtain ⟨x0, hz0⟩ : ∃ x, x = 0 := ⟨_, rfl⟩
    rw [← hz0] at P0 hx0
    clear hz0
    have t0 : ((s0.size : Int) != 32) = true := by simp; omega
    have I0 := Lib.hid (sizeF' x0); have Z0 := Lib.hid (zerosF_size x0); have O0 := Lib.hid (uc_one (limN 4 x0))
    clear h0
    obtain ⟨hz, _⟩ := zero_of_info infoF
    have HP := Lib.hid hT
    have hb := Below.refl w.heap.size w
    clear hT
    go_enter Tryd.func9, Tryd.ntmps9
    go_wp2_with fail
    refine (P0.out w).mono ?_
    rintro e W1 ⟨rfl, bk⟩
    have hb := hb.trans (bk.mono hb.size)
    have HP := Lib.hid (HP.out.step bk)
    clear bk
    have HN := Lib.hid (blk_new W1 (.cells zeros4 26))
    have bn := below_new W1 (.cells zeros4 26)
    go_wp2_with (with_reducible refine wpList_store_row rfl 26 _ _ rfl W1.heap.size (uc (limN 4 x0)) rfl rfl 26 _ HN.out I0.out Z0.out O0.out ?_)
    have qG0 := Lib.hid (setRow_heap _ W1.heap.size _ (uc (limN 4 x0)) _ _ HN.out)
    have bk := below_setRow bn (Nat.le_refl _) (uc (limN 4 x0))
    have hb := hb.trans (bk.mono hb.size)
    have HP := Lib.hid (HP.out.step bk)
    have G0 := qG0
    generalize (World.setRow (World.alloc _ _) _ _) = W2 at *
    generalize W1.heap.size = gG0 at *
    clear bk bn HN qG0
    refine (fawake_any W2 HP.out).mono ?_
    rintro e W3 ⟨rfl, bk⟩
    have hb := hb.trans (bk.mono hb.size)
    have HP := Lib.hid (HP.out.step bk)
    have G0 := Lib.hid (blk_below bk (blk_lt G0.out) G0.out)
    clear bk
    go_wp2_with (first | (with_reducible refine wpList_load_row rfl 26 _ rfl gG0 rfl 26 _ (0, 0) _ G0.out Tryd.underlying26 rfl I0.out ?_) | ((with_reducible refine wpList_load_want ?hw 26 _ rfl gG0 rfl 26 _ (0, 0) _ G0.out Tryd.underlying26 rfl I0.out ?_); (case hw => rfl)))
    go_ret
    exact ⟨rfl, hb⟩

theorem fieldSquares_lifted (os : Os) (started : os.Started) (H : Type) (enc : TypeId × Value → H) :
    ReturnsInHanded {} Tryd.checked os 9 .any (fun w args => (Rows.fieldSquaresSpec.pre enc Tryd.prog Tryd.f9 [] false w args ∧ laidMetH Tryd.prog laid1 w) ∧ sizedMet enc Tryd.prog Tryd.f9 (OpenSpec.ofChange Rows.fieldSquaresSpec) false w args)
      (Rows.fieldSquaresSpec.post enc Tryd.prog Tryd.f9 false true false false) := by
  refine returnsInHanded_of_change_and (C := Tryd.checked) (X := fun w _ => laidMetH Tryd.prog laid1 w) (fun _ _ _ hh h => h.of_heap hh) own1 started (by kernel_rfl) Tryd.func9
    (ChangeSpec.witness_shaped (enc := enc) (C := Tryd.checked) (os := os) (X := fun w _ => laidMetH Tryd.prog laid1 w) false (World.doorLaid Tryd.prog 400 os) #[.string ⟨#[]⟩] 8 rfl (World.shaped_of_RefB (by kernel_rfl) (by kernel_rfl)) (by kernel_rfl) (by kernel_rfl) (by kernel_rfl) (door_met1 os _)) ?_
  intro W base args ds gs before hval0 hW _ _ hL _
  have hval : ∀ (j : Nat) t v, Tryd.f9.params[j]? = some t → args[j]? = some v → Value.okWide Tryd.prog W .any base t v := hval0
  have hW' := hW
  obtain ⟨p, q, hA0, hV, rfl, hfz, hnd⟩ := hW
  have hA : DataW.TrodAll enc Tryd.prog W 0 (fun _ => true) true Tryd.f9.params.toList args.toList ds p := hA0
  rw [Tryd.params9] at hA hval
  obtain ⟨v0, d0, rfl, rfl, h0⟩ := trodAll_one hA
  obtain ⟨rfl, rfl⟩ := trodVars_none hV
  obtain ⟨s0, rfl, rfl, rfl, w0⟩ := open_string Tryd.underlying9 (hval 0 9 v0 rfl rfl) h0
  have hT := of_laid1 hL
  clear hA0 hval0
  simp only [List.append_nil] at hW'
  refine (fieldSquares_any s0 W w0 hT).mono fun e W' ⟨he, hb⟩ => ?_
  subst he
  refine ⟨_, rfl, _, _, _, [], [], [], hW', ?_, ?_, rfl, hb.frame _, fun h => by cases h⟩
  · exact trodAll_mk1 (shut_bool Tryd.underlying4 _)
  · exact trodAll_mk1 (shut_string Tryd.underlying9 w0)

theorem fieldSquares_holds : Rows.FieldSquaresSaid :=
  OpenClaim.holds_of_wide 9 Tryd.f9 rfl rfl rfl rfl rfl rfl rfl ⟨rfl, rfl, rfl, rfl, rfl⟩ rfl rfl rfl rfl rfl (by kernel_rfl) Tryd.func9 (by kernel_rfl)
    (of_decide_eq_true (by kernel_rfl)) (by unfold Func.isWrapper; first | (rw [if_pos (by decide +kernel)]; kernel_rfl) | (rw [if_neg (by decide +kernel)]; exact ⟨rfl, rfl⟩))
    (fun os started H enc _ => fieldSquares_lifted os started H enc)

theorem fieldSquares_card : Rows.FieldSquaresCardSaid :=
  Claim7.holds_tied_plain_at .later [] [.data] true (true, "dba20598ad203cc8d4eae559620b14cd2e22259d0cd38305137873b869c887c5") false
    fieldSquares_holds (fun _ h => by cases h) (by kernel_rfl) (fun _ h => by cases h) fieldSquares_row_tie rfl ⟨rfl, rfl⟩ (by kernel_rfl) rfl
    (fun f fn hf hfn => by
      obtain rfl : f = 9 := Option.some.inj ((show Tryd.prog.funcNamed "cresset/cressetlaw08.FieldSquares" = some 9 by kernel_rfl).symm.trans hf) |>.symm
      obtain rfl : fn = Tryd.f9 := (Option.some.inj (Tryd.func9.symm.trans hfn)).symm
      exact ⟨by kernel_rfl, fun j t ht => by
        rw [Tryd.params9] at ht
        have hm : t ∈ [9] := by simpa using Array.mem_of_getElem? ht
        have hall : ([9].all fun u => !Tryd.prog.wantsStandIn u) = true := by kernel_rfl
        exact (show Tryd.prog.wantsStandIn t = false by simpa using List.all_eq_true.1 hall t hm)⟩)
    (by kernel_rfl)
#print axioms fieldSquares_card
end Go.Proofs.YtfidcdkoggfjaaaDoor
