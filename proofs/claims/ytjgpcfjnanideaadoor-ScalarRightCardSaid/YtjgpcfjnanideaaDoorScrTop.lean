/- The reference's Wide and Right. -/
import Derived.Test.YtjgpcfjnanideaaDoorScrDig
import Derived.Test.YtjgpcfjnanideaaDoorScaTxt
namespace Go.Proofs.YtjgpcfjnanideaaDoor
open Go.RowKit Go.Sort
set_option maxRecDepth 100000
set_option linter.unusedSimpArgs false
set_option linter.unusedVariables false

theorem ofL_sixteen (l : List UInt8) (h : l.length = 32) : ofL l 16 = digN (nV l) := by
  have e := eq_digN (ofL l 16) (ofL_length _ _) (fun j hj => ofL_lt l 16 j hj)
  rw [ofL_val l 16 h] at e
  exact e
theorem nV_mF (l : List UInt8) (h : l.length = 32) : nV l < mF := by
  have := nV_lt l
  rw [h] at this
  rw [show mF = 256 ^ 32 by decide]
  exact this

set_option maxHeartbeats 1000000 in
theorem rwide_any (s : ByteArray) (w : World) :
    Calls Tryd.prog 10 #[.string s] w fun e w' => e = .returned (.tuple #[.string (wideX s), .int .i64 (wideE s)]) ∧ Below w.heap.size w w' := by
  by_cases h : s.size = 64
  · have hd : ((s.size : Int) != 64) = false := by simp [h]
    have hsl : s.data.toList.length = 2 * 32 := by rw [← Lib.size_eq]; exact h
    have C1 := Lib.hid (fun W => digitsRef_any s 32 W h (by decide) (by decide))
    have C2 := Lib.hid (fun d W hW => restRef_any d (ofL s.data.toList 32) 32 W (by decide) (fun j hj => ofL_lt _ _ _ hj) hW (by decide))
    rw [ofL_val _ 32 hsl] at C2
    have C3 := Lib.hid (fun d W hW => bytesRef10_any d (nV s.data.toList % lF) W hW)
    have HX : Hid (wideX s = ⟨(leF (nV s.data.toList % lF) 32).toArray⟩ ∧ wideE s = 0) := Lib.hid (by rw [wideX, wideE, if_pos h, if_pos h]; exact ⟨rfl, rfl⟩)
    generalize ofL s.data.toList 32 = dl at *
    generalize nV s.data.toList % lF = x at *
    clear h hsl
    go_enter Tryd.func10, Tryd.ntmps10
    go_wp2_with fail
    refine (C1.out w).mono ?_
    rintro e W1 ⟨⟨d1, rfl, hd1⟩, b1⟩
    have HD1 := Lib.hid hd1
    clear hd1
    go_wp2_with fail
    refine (C2.out d1 W1 HD1.out).mono ?_
    rintro e W2 ⟨⟨d2, rfl, hd2⟩, b2⟩
    have HD2 := Lib.hid hd2
    replace b2 := b1.trans (b2.mono b1.size)
    clear hd2 HD1
    go_wp2_with fail
    refine (C3.out d2 W2 HD2.out).mono ?_
    rintro e W3 ⟨rfl, b3⟩
    replace b3 := b2.trans (b3.mono b2.size)
    go_wp2_with fail
    go_ret2
    exact ⟨by rw [HX.out.1, HX.out.2]; rfl, b3⟩
  · have hd : ((s.size : Int) != 64) = true := by simp; omega
    have HX : Hid (wideX s = ⟨#[]⟩ ∧ wideE s = 1) := Lib.hid (by rw [wideX, wideE, if_neg h, if_neg h]; exact ⟨rfl, rfl⟩)
    clear h
    go_enter Tryd.func10, Tryd.ntmps10
    go_wp2_with fail
    go_ret2
    exact ⟨by rw [HX.out.1, HX.out.2]; rfl, Below.refl _ _⟩

set_option maxHeartbeats 1000000 in
theorem rright_any (s : ByteArray) (w : World) :
    Calls Tryd.prog 13 #[.string s] w fun e w' => e = .returned (.bool (okR s)) ∧ Below w.heap.size w w' := by
  by_cases h : s.size = 32
  · have hd : ((s.size : Int) == 32) = true := by simp [h]
    have hsl : s.data.toList.length = 32 := by rw [← Lib.size_eq]; exact h
    have C1 := Lib.hid (fun W => digitsRef_any s 16 W h (by decide) (by decide))
    rw [ofL_sixteen _ hsl] at C1
    have hok : okR s = decide (nV s.data.toList < lF) := by rw [okR, h]; simp
    have C3 := Lib.hid (fun da db W ha hb => lessRef_any da db (nV s.data.toList) lF W (nV_mF _ hsl) lF_lt ha hb)
    rw [← hok] at C3
    have HOR := Lib.hid (fun W => order_any W)
    generalize okR s = q at *
    generalize nV s.data.toList = x at *
    clear h hsl hok
    go_enter Tryd.func13, Tryd.ntmps13
    go_wp2_with fail
    refine (C1.out w).mono ?_
    rintro e W1 ⟨⟨d1, rfl, hd1⟩, b1⟩
    have HD1 : Hid (DigAt W1 d1 (digN x)) := Lib.hid hd1
    clear hd1
    go_wp2_with fail
    refine (HOR.out W1).mono ?_
    rintro e W2 ⟨rfl, rfl⟩
    have b2 := below_new W1 (.cells (dcl (digN lF)) 3)
    have HD2 := Lib.hid (HD1.out.step b2)
    have HL2 : Hid (DigAt (W1.alloc (.cells (dcl (digN lF)) 3)) (.slice (some ⟨W1.heap.size, 0, none⟩) 16 16) (digN lF)) := Lib.hid (DigAt.of_block (blk_new W1 _) (digN_length _))
    replace b2 := b1.trans (b2.mono b1.size)
    generalize (W1.alloc (.cells (dcl (digN lF)) 3)) = V at *
    generalize W1.heap.size = g at *
    go_wp2_with fail
    refine (C3.out _ _ V HD2.out HL2.out).mono ?_
    rintro e W3 ⟨rfl, b3⟩
    replace b3 := b2.trans (b3.mono b2.size)
    go_wp2_with fail
    go_ret
    exact ⟨rfl, b3⟩
  · have hd : ((s.size : Int) == 32) = false := by simp; omega
    have hok : okR s = false := by rw [okR, decide_eq_false h]; rfl
    have HX := Lib.hid hok
    clear h hok
    go_enter Tryd.func13, Tryd.ntmps13
    go_wp2_with fail
    go_ret
    exact ⟨by rw [HX.out]; rfl, Below.refl _ _⟩
end Go.Proofs.YtjgpcfjnanideaaDoor
