/- labelInfo and Label of package mac. -/
import Derived.Test.YthcfolefdalaiaaDoorMacX
import Derived.Test.YthcfolefdalaiaaDoorOwn
namespace Go.Proofs.YthcfolefdalaiaaDoor
open Go.RowKit Go.Sort
set_option maxRecDepth 100000
set_option linter.unusedSimpArgs false
set_option linter.unusedVariables false

/-- The info by which Label asks Expand. -/
def tlsL : List UInt8 := [116, 108, 115, 49, 51, 32]
def labelL (label ctx : List UInt8) (n : Nat) : List UInt8 := [UInt8.ofNat (n / 256), UInt8.ofNat (n % 256), UInt8.ofNat (label.length + 6)] ++ (tlsL ++ label) ++ [UInt8.ofNat ctx.length] ++ ctx
theorem strCells_bytes (s : ByteArray) : Lib.strCells s = Lib.byteCells s.data.toList := rfl
theorem ofNat_cell (k : Nat) (h : k < 256) : ((UInt8.ofNat k).toNat : Int) = (k : Int) := by simp; omega
theorem label_cells (label ctx full : ByteArray) (n : Nat) (hf : full.data.toList = tlsL ++ label.data.toList) (hl : label.size ≤ 249) (hc : ctx.size ≤ 255) (hn : n ≤ 8160) :
    [Value.int .u8 ((n : Int) / 256), .int .u8 ((n : Int) % 256), .int .u8 ((label.size : Int) + 6)] ++ Lib.strCells full ++ [.int .u8 (ctx.size : Int)] ++ Lib.strCells ctx = Lib.byteCells (labelL label.data.toList ctx.data.toList n) := by
  have e1 := ofNat_cell (n / 256) (by omega); have e2 := ofNat_cell (n % 256) (by omega); have e3 := ofNat_cell (label.size + 6) (by omega); have e4 := ofNat_cell ctx.size (by omega)
  rw [labelL, Lib.byteCells_append, Lib.byteCells_append, Lib.byteCells_append, strCells_bytes, strCells_bytes, hf, ← Lib.size_eq, ← Lib.size_eq]
  congr 2
  · congr 1
    simp only [Lib.byteCells, List.map_cons, List.map_nil, e1, e2, e3]
    simp
  · simp only [Lib.byteCells, List.map_cons, List.map_nil, e4]
set_option maxHeartbeats 2000000 in
theorem labelInfo_any (label ctx : ByteArray) (n : Nat) (w : World) (hl : label.size ≤ 249) (hc : ctx.size ≤ 255) (hn : n ≤ 8160) :
    Calls Tryd.prog 49 #[.string label, .string ctx, .int .i64 (n : Int)] w fun e w' => e = .returned (.string ⟨(labelL label.data.toList ctx.data.toList n).toArray⟩) ∧ Below w.heap.size w w' := by
  obtain ⟨i0, hi, hz0, hz1, hz2⟩ := info_parts info_u8
  have HC := Lib.hid (label_cells label ctx ((⟨#[116, 108, 115, 49, 51, 32]⟩ : ByteArray) ++ label) n (by simp [tlsL]) hl hc hn)
  have hfs : ((⟨#[116, 108, 115, 49, 51, 32]⟩ : ByteArray) ++ label).size = label.size + 6 := by rw [ByteArray.size_append, Nat.add_comm]; rfl
  have HO0 := Lib.hid (show (w.alloc (.cells #[.int .u8 ((n : Int) / 256), .int .u8 ((n : Int) % 256), .int .u8 ((label.size : Int) + 6)] 5)).ownsRow w.heap.size 5 1 (.slice (some ⟨w.heap.size, 0, none⟩) 3 3) 3 [.int .u8 ((n : Int) / 256), .int .u8 ((n : Int) % 256), .int .u8 ((label.size : Int) + 6)] from
    ⟨rfl, .inr ⟨w.heap.size, 3, _, rfl, Nat.le_refl _, blk_new w _, by omega, by unfold maxLen; omega, rfl, rfl⟩⟩)
  have hB0 := below_new w (.cells #[.int .u8 ((n : Int) / 256), .int .u8 ((n : Int) % 256), .int .u8 ((label.size : Int) + 6)] 5)
  have hsz0 : w.heap.size ≤ (w.alloc (.cells #[.int .u8 ((n : Int) / 256), .int .u8 ((n : Int) % 256), .int .u8 ((label.size : Int) + 6)] 5)).heap.size := by simp
  go_enter Tryd.func49, Tryd.ntmps49
  go_wp2_with (at_builtin; refine Lib.wpList_append_own_string _ rfl (.tmp 20) (.tmp 21) 46 9 rfl w.heap.size 5 i0 Tryd.underlying46 Tryd.underlying9 hi hz0 hz1 hz2 (.slice (some ⟨w.heap.size, 0, none⟩) 3 3) 3 _ rfl HO0.out ((⟨#[116, 108, 115, 49, 51, 32]⟩ : ByteArray) ++ label) rfl ?a1 ?a2 ?a3 ?_)
  case a1 => unfold maxLen; omega
  case a2 => omega
  case a3 => exact hsz0
  intro v1 W1 hown1 hgrow1 _
  have hB1 : Below w.heap.size w W1 := hB0.grown hgrow1 hsz0 (by intro k hk; simp [Value.ownBlock] at hk; omega)
  have hsz1 : w.heap.size ≤ W1.heap.size := Nat.le_trans hsz0 hgrow1.size
  generalize ((⟨#[116, 108, 115, 49, 51, 32]⟩ : ByteArray) ++ label) = full at *
  have HO1 := Lib.hid (hown1.alloc (.cells #[.int .u8 (ctx.size : Int)] 5))
  clear HO0 hB0 hown1 hgrow1
  go_wp2_with (at_builtin; refine wpList_append_own _ rfl (.tmp 23) (.tmp 27) 46 rfl w.heap.size 5 i0 (.int .u8 0) 1 1 Tryd.underlying46 hi hz0 hz1 hz2 rfl (by omega) v1 (3 + (label.size + 6)) _ rfl HO1.out ⟨W1.heap.size, 0, none⟩ 1 1 [.int .u8 (ctx.size : Int)] rfl rfl (cell_one_new _ _ _) ?b2 ?b3 ?b4 ?b5 ?_)
  case b2 => intro u hu; simp at hu; subst hu; rfl
  case b3 => unfold maxLen; omega
  case b4 => omega
  case b5 => simp; omega
  intro v2 W2 hown2 hgrow2 _
  have hB2 : Below w.heap.size w W2 := (hB1.alloc hsz1 _).grown hgrow2 (by simp; omega) (fun k hk => (World.ownsRow.lt HO1.out k hk).1)
  have hsz2 : w.heap.size ≤ W2.heap.size := by have := hgrow2.size; simp at this; omega
  have HO2 := Lib.hid hown2
  clear HO1 hB1 hown2 hgrow2
  go_wp2_with (at_builtin; refine Lib.wpList_append_own_string _ rfl (.tmp 29) (.tmp 30) 46 9 rfl w.heap.size 5 i0 Tryd.underlying46 Tryd.underlying9 hi hz0 hz1 hz2 v2 (3 + (label.size + 6) + 1) _ rfl HO2.out ctx rfl ?c1 ?c2 ?c3 ?_)
  case c1 => unfold maxLen; omega
  case c2 => omega
  case c3 => exact hsz2
  intro v3 W3 hown3 hgrow3 _
  have hB3 : Below w.heap.size w W3 := hB2.grown hgrow3 hsz2 (fun k hk => (World.ownsRow.lt HO2.out k hk).1)
  have hxs := own_of_row hown3
  have e3 := HC.out
  simp only [List.cons_append, List.nil_append, List.append_assoc] at e3 hxs
  rw [e3] at hxs
  have hlen : (labelL label.data.toList ctx.data.toList n).length = 3 + (label.size + 6) + 1 + ctx.size := by have := hxs.2; rwa [Lib.byteCells_length] at this
  obtain ⟨g, cp, rfl, hoG, _⟩ := hxs.1.some (by rw [Lib.byteCells_length]; omega)
  have hcv := run_string_row W3 g cp (labelL label.data.toList ctx.data.toList n) (fun j x hx => hoG.cells j _ (by simp [Lib.byteCells, hx]))
  rw [Lib.byteCells_length]
  clear hoG hxs hown3 hgrow3 e3 HC HO2 hlen
  generalize hil : labelL label.data.toList ctx.data.toList n = il at *
  have HIL := Lib.hid hil
  clear hil
  go_wp2_with fail
  go_ret
  exact ⟨by rw [HIL.out]; rfl, hB3⟩
theorem labelNeg_any (key label ctx : ByteArray) (n : Int) (w : World) (hn : n < 0) :
    Calls Tryd.prog 27 #[.string key, .string label, .string ctx, .int .i64 n] w fun e w' => e = .returned (.tuple #[.string ⟨#[]⟩, .int .i64 1]) ∧ Below w.heap.size w w' := by
  have hd1 : decide (n < 0) = true := by simp; omega
  go_enter Tryd.func27, Tryd.ntmps27
  go_wp2_with fail
  go_ret2
  exact ⟨rfl, Below.refl _ _⟩
theorem labelBig_any (key label ctx : ByteArray) (n : Int) (w : World) (hn : ¬ n < 0) (hbig : 249 < label.size ∨ 255 < ctx.size ∨ 8160 < n) :
    Calls Tryd.prog 27 #[.string key, .string label, .string ctx, .int .i64 n] w fun e w' => e = .returned (.tuple #[.string ⟨#[]⟩, .int .i64 13]) ∧ Below w.heap.size w w' := by
  have hd1 : decide (n < 0) = false := by simp; omega
  by_cases h1 : 249 < label.size
  · have hd2 : decide ((249 : Int) < (label.size : Int)) = true := by simp; omega
    go_enter Tryd.func27, Tryd.ntmps27
    go_wp2_with fail
    go_ret2
    exact ⟨rfl, Below.refl _ _⟩
  have hd2 : decide ((249 : Int) < (label.size : Int)) = false := by simp; omega
  by_cases h2 : 255 < ctx.size
  · have hd3 : decide ((255 : Int) < (ctx.size : Int)) = true := by simp; omega
    go_enter Tryd.func27, Tryd.ntmps27
    go_wp2_with fail
    go_ret2
    exact ⟨rfl, Below.refl _ _⟩
  have hd3 : decide ((255 : Int) < (ctx.size : Int)) = false := by simp; omega
  have hd4 : decide ((8160 : Int) < n) = true := by simp; omega
  go_enter Tryd.func27, Tryd.ntmps27
  go_wp2_with fail
  go_ret2
  exact ⟨rfl, Below.refl _ _⟩
set_option maxHeartbeats 1000000 in
theorem label_any (key label ctx : ByteArray) (n : Nat) (w : World) (hK : TabK w kf) (hH : TabH w hf) (hk : key.size ≤ 1000000) (hl : label.size ≤ 249) (hc : ctx.size ≤ 255) (hn : n ≤ 8160) :
    Calls Tryd.prog 27 #[.string key, .string label, .string ctx, .int .i64 (n : Int)] w fun e w' => e = .returned (.tuple #[.string ⟨(expL (blockL (keyOf32 key.data.toList)) (labelL label.data.toList ctx.data.toList n) n).toArray⟩, .int .i64 0]) ∧ Below w.heap.size w w' := by
  have hd1 : decide ((n : Int) < 0) = false := by simp
  have hd2 : decide ((249 : Int) < (label.size : Int)) = false := by simp; omega
  have hd3 : decide ((255 : Int) < (ctx.size : Int)) = false := by simp; omega
  have hd4 : decide ((8160 : Int) < (n : Int)) = false := by simp; omega
  have hll : (labelL label.data.toList ctx.data.toList n).length ≤ 1000 := by simp only [labelL, tlsL, List.length_append, List.length_cons, List.length_nil]; rw [← Lib.size_eq, ← Lib.size_eq]; omega
  have H1 := Lib.hid (labelInfo_any label ctx n w hl hc hn)
  generalize hil : labelL label.data.toList ctx.data.toList n = il at *
  have HIL := Lib.hid hil
  clear hil
  go_enter Tryd.func27, Tryd.ntmps27
  go_wp2_with fail
  refine H1.out.mono ?_
  rintro e W1 ⟨rfl, hb1⟩
  clear H1
  have h2 := expand_any key ⟨il.toArray⟩ n W1 (hK.below hb1 hK.lt) (hH.below hb1 hH.lt) (by omega) (by rw [Lib.size_eq]; simp; omega) hn
  simp only [List.toList_toArray] at h2
  have H2 := Lib.hid h2
  clear h2
  go_wp2_with fail
  refine H2.out.mono ?_
  rintro e W2 ⟨rfl, hb2⟩
  go_wp2_with fail
  go_ret2
  exact ⟨rfl, hb1.trans (hb2.mono hb1.size)⟩
end Go.Proofs.YthcfolefdalaiaaDoor
