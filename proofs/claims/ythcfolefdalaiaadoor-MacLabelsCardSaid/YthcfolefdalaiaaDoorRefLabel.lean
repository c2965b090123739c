/- The reference's Label. -/
import Derived.Test.YthcfolefdalaiaaDoorLabel
import Derived.Test.YthcfolefdalaiaaDoorRefExp
namespace Go.Proofs.YthcfolefdalaiaaDoor
open Go.RowKit Go.Sort
set_option maxRecDepth 100000
set_option linter.unusedSimpArgs false
set_option linter.unusedVariables false

theorem refLabelNeg_any (key label ctx : ByteArray) (n : Int) (w : World) (hn : n < 0) :
    Calls Tryd.prog 28 #[.string key, .string label, .string ctx, .int .i64 n] w fun e w' => e = .returned (.tuple #[.string ⟨#[]⟩, .int .i64 1]) ∧ Below w.heap.size w w' := by
  have hd1 : decide (n < 0) = true := by simp; omega
  go_enter Tryd.func28, Tryd.ntmps28
  go_wp2_with fail
  go_ret2
  exact ⟨rfl, Below.refl _ _⟩
theorem refLabelBig_any (key label ctx : ByteArray) (n : Int) (w : World) (hn : ¬ n < 0) (hbig : 249 < label.size ∨ 255 < ctx.size ∨ 8160 < n) :
    Calls Tryd.prog 28 #[.string key, .string label, .string ctx, .int .i64 n] w fun e w' => e = .returned (.tuple #[.string ⟨#[]⟩, .int .i64 13]) ∧ Below w.heap.size w w' := by
  have hd1 : decide (n < 0) = false := by simp; omega
  by_cases h1 : 249 < label.size
  · have hd2 : decide ((249 : Int) < (label.size : Int)) = true := by simp; omega
    go_enter Tryd.func28, Tryd.ntmps28
    go_wp2_with fail
    go_ret2
    exact ⟨rfl, Below.refl _ _⟩
  have hd2 : decide ((249 : Int) < (label.size : Int)) = false := by simp; omega
  by_cases h2 : 255 < ctx.size
  · have hd3 : decide ((255 : Int) < (ctx.size : Int)) = true := by simp; omega
    go_enter Tryd.func28, Tryd.ntmps28
    go_wp2_with fail
    go_ret2
    exact ⟨rfl, Below.refl _ _⟩
  have hd3 : decide ((255 : Int) < (ctx.size : Int)) = false := by simp; omega
  have hd4 : decide ((8160 : Int) < n) = true := by simp; omega
  go_enter Tryd.func28, Tryd.ntmps28
  go_wp2_with fail
  go_ret2
  exact ⟨rfl, Below.refl _ _⟩
set_option maxHeartbeats 1000000 in
theorem refLabel_any (key label ctx : ByteArray) (n : Nat) (w : World) (hk : key.size ≤ 1000000) (hl : label.size ≤ 249) (hc : ctx.size ≤ 255) (hn : n ≤ 8160) :
    Calls Tryd.prog 28 #[.string key, .string label, .string ctx, .int .i64 (n : Int)] w fun e w' => e = .returned (.tuple #[.string ⟨(expL (blockL (keyOf32 key.data.toList)) (labelL label.data.toList ctx.data.toList n) n).toArray⟩, .int .i64 0]) ∧ Below w.heap.size w w' := by
  have hd1 : decide ((n : Int) < 0) = false := by simp
  have hd2 : decide ((249 : Int) < (label.size : Int)) = false := by simp; omega
  have hd3 : decide ((255 : Int) < (ctx.size : Int)) = false := by simp; omega
  have hd4 : decide ((8160 : Int) < (n : Int)) = false := by simp; omega
  have e1 := ofNat_cell (n / 256) (by omega); have e2 := ofNat_cell (n % 256) (by omega); have e3 := ofNat_cell (label.size + 6) (by omega); have e4 := ofNat_cell ctx.size (by omega)
  obtain ⟨x3, hx3⟩ : ∃ x3 : ByteArray, x3 = ⟨[UInt8.ofNat (n / 256), UInt8.ofNat (n % 256), UInt8.ofNat (label.size + 6)].toArray⟩ := ⟨_, rfl⟩
  obtain ⟨x1, hx1⟩ : ∃ x1 : ByteArray, x1 = ⟨[UInt8.ofNat ctx.size].toArray⟩ := ⟨_, rfl⟩
  have hcv3 := run_string_row (w.alloc (.cells #[.int .u8 ((n : Int) / 256), .int .u8 ((n : Int) % 256), .int .u8 (6 + (label.size : Int))] 5)) w.heap.size 3 [UInt8.ofNat (n / 256), UInt8.ofNat (n % 256), UInt8.ofNat (label.size + 6)] (by
    have e : #[Value.int .u8 ((n : Int) / 256), .int .u8 ((n : Int) % 256), .int .u8 (6 + (label.size : Int))] = bcells [UInt8.ofNat (n / 256), UInt8.ofNat (n % 256), UInt8.ofNat (label.size + 6)] := by
      simp only [bcells, Lib.byteCells, List.map_cons, List.map_nil, e1, e2, e3]
      simp [Int.add_comm]
    rw [e]
    exact cells_of_bcells (blk_new w _))
  have hcv1 := run_string_row ((w.alloc (.cells #[.int .u8 ((n : Int) / 256), .int .u8 ((n : Int) % 256), .int .u8 (6 + (label.size : Int))] 5)).alloc (.cells #[.int .u8 (ctx.size : Int)] 5)) (w.heap.size + 1) 1 [UInt8.ofNat ctx.size] (by
    have e : #[Value.int .u8 (ctx.size : Int)] = bcells [UInt8.ofNat ctx.size] := by
      simp only [bcells, Lib.byteCells, List.map_cons, List.map_nil, e4]
    rw [e]
    exact cells_of_bcells (blk_new2 w _ _))
  simp only [List.length_cons, List.length_nil, Nat.zero_add, Nat.reduceAdd] at hcv3 hcv1
  rw [← hx3] at hcv3
  rw [← hx1] at hcv1
  have hs3 : x3.size = 3 := by rw [hx3, Lib.size_eq]; rfl
  have hs1 : x1.size = 1 := by rw [hx1, Lib.size_eq]; rfl
  have HIL := Lib.hid (show (x3 ++ ((⟨#[116, 108, 115, 49, 51, 32]⟩ : ByteArray) ++ label) ++ x1 ++ ctx).data.toList = labelL label.data.toList ctx.data.toList n from by
    rw [hx3, hx1, labelL, ← Lib.size_eq, ← Lib.size_eq]
    simp [tlsL])
  have hsa : (x3 ++ ((⟨#[116, 108, 115, 49, 51, 32]⟩ : ByteArray) ++ label) ++ x1 ++ ctx).size ≤ 900000 := by
    rw [Lib.size_eq, HIL.out]; simp only [labelL, tlsL, List.length_append, List.length_cons, List.length_nil]; rw [← Lib.size_eq, ← Lib.size_eq]; omega
  have HSA := Lib.hid hsa
  have hB0 := below_new2 w (.cells #[.int .u8 ((n : Int) / 256), .int .u8 ((n : Int) % 256), .int .u8 (6 + (label.size : Int))] 5) (.cells #[.int .u8 (ctx.size : Int)] 5)
  have hsz0 : w.heap.size ≤ ((w.alloc (.cells #[.int .u8 ((n : Int) / 256), .int .u8 ((n : Int) % 256), .int .u8 (6 + (label.size : Int))] 5)).alloc (.cells #[.int .u8 (ctx.size : Int)] 5)).heap.size := by simp; omega
  clear hx3 hx1 e1 e2 e3 e4 hsa
  go_enter Tryd.func28, Tryd.ntmps28
  go_wp2_with fail
  clear hcv3 hcv1
  generalize ((w.alloc _).alloc _) = W0 at *
  have h2 := refExpand_any key (x3 ++ ((⟨#[116, 108, 115, 49, 51, 32]⟩ : ByteArray) ++ label) ++ x1 ++ ctx) n W0 hk HSA.out hn
  rw [HIL.out] at h2
  refine h2.mono ?_
  rintro e W1 ⟨rfl, hb1⟩
  go_wp2_with fail
  go_ret2
  exact ⟨rfl, hB0.trans (hb1.mono hsz0)⟩
end Go.Proofs.YthcfolefdalaiaaDoor
