/- The chapter's examples, whatever the program's points are. -/
import Derived.Test.YtcpdehfmlmmgiaaDoorPtSmall
namespace Go.Proofs.YtcpdehfmlmmgiaaDoor
open Go.RowKit Go.Sort
set_option maxRecDepth 100000
set_option linter.unusedSimpArgs false
set_option linter.unusedVariables false

theorem base_text : (txtP baseP).size = 32 ∧ (txtP baseP).data.toList.getD 0 0 = 88 ∧ (txtP baseP).data.toList.getD 1 0 = 102 := by
  rw [show txtP baseP = ⟨basL.toArray⟩ by rw [txtP, base_bytes]]
  exact ⟨leF_length _ 32, base_first.1, base_first.2⟩
theorem small_at (n : Nat) : ofET (smT n) = ofE (leF n 32) := by rw [ofET, if_pos (smT_size n)]; rfl
theorem byte_text (s : ByteArray) (i : Nat) (b : UInt8) (h : s.data.toList.getD i 0 = b) (hi : i < s.size) : ∀ k : i < s.size, ((s[i]'k).toNat : Int) = (b.toNat : Int) := fun k => by
  rw [← h, getDF_byte s i k]
set_option maxHeartbeats 8000000 in
theorem ptwake_of {IsPt : Array Value → PtN → Prop} {zv : Array Value} {N : Nat} (C : PtCalls IsPt zv N) (w : World) (hT : PrmQ w) :
    Calls Tryd.prog 15 #[] w fun e w' => e = .returned (.bool true) ∧ Below w.heap.size w w' := by
  obtain ⟨z1, z2, z3⟩ := base_text
  have h88 := byte_text _ 0 _ z2 (by omega)
  have h102 := byte_text _ 1 _ z3 (by omega)
  have S0 := Lib.hid (fun W => small11_any 0 W (by decide))
  have S2 := Lib.hid (fun W => small11_any 2 W (by decide))
  have CB := Lib.hid (fun cs W h hT => C.bytes cs baseP W h hT)
  have C0 := Lib.hid (C.of (smT 0))
  have C2 := Lib.hid (C.of (smT 2))
  rw [small_at, nought_is] at C0
  rw [small_at, two_not] at C2
  generalize txtP baseP = tb at *
  generalize smT 0 = s0 at *
  generalize smT 2 = s2 at *
  have hd32 : ((tb.size : Int) == 32) = true := by rw [z1]; rfl
  have hl0 : 0 < tb.size := by omega
  have hl1 : 1 < tb.size := by omega
  have hi0 : (0 : Int) < (tb.size : Int) := by omega
  have hi1 : (1 : Int) < (tb.size : Int) := by omega
  clear z1 z2 z3
  have hzP := (zero_of_info C.info).1
  have HP := Lib.hid hT
  have hb := Below.refl w.heap.size w
  clear hT
  go_enter Tryd.func15, Tryd.ntmps15
  go_wp2_with fail
  refine (C.base w HP.out).mono ?_
  rintro e W1 ⟨⟨bs, rfl, hbs⟩, bk⟩
  have Hbs := Lib.hid hbs
  clear hbs
  replace hb := hb.trans (bk.mono hb.size)
  replace HP := Lib.hid (HP.out.step bk)
  clear bk
  go_wp2_with fail
  refine (CB.out bs W1 Hbs.out HP.out).mono ?_
  rintro e W2 ⟨rfl, bk⟩
  replace hb := hb.trans (bk.mono hb.size)
  replace HP := Lib.hid (HP.out.step bk)
  clear bk
  go_wp2_with fail
  refine (S0.out W2).mono ?_
  rintro e W3 ⟨rfl, bk⟩
  replace hb := hb.trans (bk.mono hb.size)
  replace HP := Lib.hid (HP.out.step bk)
  clear bk
  go_wp2_with fail
  refine (C0.out W3 HP.out).mono ?_
  rintro e W4 ⟨⟨cs, rfl, hcs⟩, bk⟩
  have Hcs := Lib.hid hcs
  clear hcs
  replace hb := hb.trans (bk.mono hb.size)
  replace HP := Lib.hid (HP.out.step bk)
  clear bk
  have HN := Lib.hid (blk_new W4 (.cells zv 28))
  have bn := below_new W4 (.cells zv 28)
  have Scs := Lib.hid (C.isz Hcs.out); have Ocs := Lib.hid (C.zsz Hcs.out); have Ics := Lib.hid (C.one _ _ Hcs.out)
  go_wp2_with (with_reducible refine wpList_store_row rfl 28 _ _ rfl W4.heap.size cs rfl rfl 28 _ HN.out Scs.out Ocs.out Ics.out ?_)
  have Bcs := Lib.hid (setRow_heap _ W4.heap.size _ cs _ _ HN.out)
  have bk := below_setRow bn (Nat.le_refl _) cs
  have hg1 := hb.size
  replace hb := hb.trans (bk.mono hb.size)
  replace HP := Lib.hid (HP.out.step bk)
  clear bk
  generalize (World.setRow (World.alloc _ _) _ _) = V5 at *
  generalize W4.heap.size = g1 at *
  clear bn HN
  refine (S2.out V5).mono ?_
  rintro e W6 ⟨rfl, bk⟩
  replace hb := hb.trans (bk.mono hb.size)
  replace HP := Lib.hid (HP.out.step bk)
  replace Bcs := Lib.hid (blk_below bk (blk_lt Bcs.out) Bcs.out)
  clear bk
  go_wp2_with fail
  refine (C2.out W6 HP.out).mono ?_
  rintro e W7 ⟨⟨ds, rfl, hds⟩, bk⟩
  have Hds := Lib.hid hds
  clear hds
  replace hb := hb.trans (bk.mono hb.size)
  replace HP := Lib.hid (HP.out.step bk)
  replace Bcs := Lib.hid (blk_below bk (blk_lt Bcs.out) Bcs.out)
  clear bk
  have HN := Lib.hid (blk_new W7 (.cells zv 28))
  have bn := below_new W7 (.cells zv 28)
  have Sds := Lib.hid (C.isz Hds.out); have Ods := Lib.hid (C.zsz Hds.out); have Ids := Lib.hid (C.one _ _ Hds.out)
  go_wp2_with (with_reducible refine wpList_store_row rfl 28 _ _ rfl W7.heap.size ds rfl rfl 28 _ HN.out Sds.out Ods.out Ids.out ?_)
  have Bds := Lib.hid (setRow_heap _ W7.heap.size _ ds _ _ HN.out)
  have bk := below_setRow bn (Nat.le_refl _) ds
  have hg2 := hb.size
  replace hb := hb.trans (bk.mono hb.size)
  replace HP := Lib.hid (HP.out.step bk)
  replace Bcs := Lib.hid (blk_below bk (blk_lt Bcs.out) Bcs.out)
  clear bk
  generalize (World.setRow (World.alloc _ _) _ _) = V8 at *
  generalize W7.heap.size = g2 at *
  clear bn HN
  go_ret
  exact ⟨rfl, hb⟩
end Go.Proofs.YtcpdehfmlmmgiaaDoor
