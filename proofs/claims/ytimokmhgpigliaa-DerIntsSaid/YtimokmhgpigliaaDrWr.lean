/- A thing of a tag: the reference's Write. -/
import Derived.Test.YtimokmhgpigliaaDrRead
namespace Go.Proofs.Ytimokmhgpigliaa
open Go.RowKit Go.Sort
set_option maxRecDepth 100000
set_option linter.unusedSimpArgs false
set_option linter.unusedVariables false

theorem row_news (W : World) (B : Nat) (t : TypeId) (l : List Value) (fr : Nat × Nat) (h : W.heap[B]? = some (.cells l.toArray t fr)) : ∀ j u, l[j]? = some u → W.cell? ((⟨B, 0, none⟩ : Addr).add j) = some u := fun j u hj => by
  have hadd : (⟨B, 0, none⟩ : Addr).add j = ⟨B, j, none⟩ := by unfold Addr.add; split <;> simp_all
  rw [hadd, cell_of_row W B _ _ t fr h]
  simpa using hj
theorem cell_byte (k : Nat) (h : k < 256) : ((UInt8.ofNat k).toNat : Int) = (k : Int) := by simp; omega
theorem wrShort_cells (a n : Nat) (ha : a < 256) (hn : n < 128) : [Value.int .u8 (a : Int)] ++ [.int .u8 (n : Int)] = Lib.byteCells (UInt8.ofNat a :: [UInt8.ofNat n]) := by
  have e0 := cell_byte a ha
  have e1 : ((UInt8.ofNat n).toNat : Int) = (n : Int) % 256 := by rw [UInt8.toNat_ofNat']; omega
  simp only [Lib.byteCells, List.map_cons, List.map_nil, List.cons_append, List.nil_append, e0, e1]
  rw [Int.emod_eq_of_lt (by omega) (by omega)]
set_option maxHeartbeats 2000000 in
theorem rwrShort_any (a : Nat) (b : ByteArray) (w : World) (ha : a < 256) (ht : isT (a : Int) = true) (hn : b.size < 128) :
    Calls Try.prog 16 #[.int .i64 (a : Int), .string b] w fun e w' => e = .returned (.tuple #[.string (⟨(UInt8.ofNat a :: [UInt8.ofNat b.size]).toArray⟩ ++ b), .int .i64 0]) ∧ Below w.heap.size w w' := by
  obtain ⟨i0, hi, hz0, hz1, hz2⟩ := info_parts info_u8
  have CT := Lib.hid (fun W => risTag_any (a : Int) W (by omega) (by omega))
  rw [ht] at CT
  have HC := Lib.hid (wrShort_cells a b.size ha hn)
  have d1 : decide ((65536 : Int) ≤ (b.size : Int)) = false := by simp; omega
  have d2 : decide ((b.size : Int) < 128) = true := by simp; omega
  have wt : IntKind.u8.wrap (a : Int) = (a : Int) := by rw [IntKind.wrap_u8]; omega
  have hsum : 2 + b.size ≤ 9223372036854775807 := by omega
  have hb := Below.refl w.heap.size w
  clear ht
  go_enter Try.func16, Try.ntmps16
  go_wp2_with fail
  refine (CT.out w).mono ?_
  rintro e W1 ⟨rfl, bk⟩
  replace hb := hb.trans (bk.mono hb.size)
  clear bk CT
  have hb1 : Below w.heap.size w (W1.alloc (.cells #[.int .u8 (a : Int)] 5)) := hb.alloc hb.size _
  have hsz1 : w.heap.size ≤ (W1.alloc (.cells #[.int .u8 (a : Int)] 5)).heap.size := hb1.size
  have HO0 := Lib.hid (show (W1.alloc (.cells #[.int .u8 (a : Int)] 5)).ownsRow W1.heap.size 5 1 (.slice (some ⟨W1.heap.size, 0, none⟩) 1 1) 1 [.int .u8 (a : Int)] from
    ⟨rfl, .inr ⟨W1.heap.size, 1, _, rfl, Nat.le_refl _, blk_new W1 _, by omega, by unfold maxLen; omega, rfl, rfl⟩⟩)
  have HO1 := Lib.hid (HO0.out.alloc (.cells #[.int .u8 (b.size : Int)] 5))
  have HN := Lib.hid (row_news _ (W1.heap.size + 1) 5 [.int .u8 (b.size : Int)] (0, 0) (blk_new2 W1 (.cells #[.int .u8 (a : Int)] 5) (.cells #[.int .u8 (b.size : Int)] 5)))
  have hb2 : Below w.heap.size w ((W1.alloc (.cells #[.int .u8 (a : Int)] 5)).alloc (.cells #[.int .u8 (b.size : Int)] 5)) := hb1.alloc hsz1 _
  have hW1 := hb.size
  go_wp2_with (at_builtin; refine wpList_append_own _ rfl (.tmp 20) (.tmp 23) 46 rfl W1.heap.size 5 i0 (.int .u8 0) 1 1 Try.underlying46 hi hz0 hz1 hz2 rfl (by omega) (.slice (some ⟨W1.heap.size, 0, none⟩) 1 1) 1 _ rfl HO1.out ⟨W1.heap.size + 1, 0, none⟩ 1 1 [.int .u8 (b.size : Int)] rfl rfl HN.out ?b2 ?b3 ?b4 ?b5 ?_)
  case b2 => intro u hu; simp at hu; (first | (subst hu; rfl) | (rcases hu with rfl | rfl <;> rfl) | (rcases hu with rfl | rfl | rfl <;> rfl))
  case b3 => unfold maxLen; omega
  case b4 => omega
  case b5 => simp; omega
  intro v1 W2 hown1 hgrow1 _
  have hb3 : Below w.heap.size w W2 := hb2.grown hgrow1 hb2.size (fun k hk => by have := (World.ownsRow.lt HO1.out k hk).1; omega)
  have hxs := own_of_row hown1
  have e3 := HC.out
  simp only [List.cons_append, List.nil_append] at e3 hxs
  rw [e3] at hxs
  obtain ⟨g, cp, rfl, hoG, _⟩ := hxs.1.some (by rw [Lib.byteCells_length]; simp)
  rw [Lib.byteCells_length]
  generalize hLL : (UInt8.ofNat a :: [UInt8.ofNat b.size]) = L at *
  have hcv := run_string_row W2 g cp L (fun j x hx => hoG.cells j _ (by simp [Lib.byteCells, hx]))
  clear hoG hxs hown1 hgrow1 e3 HC HO0 HO1 HN hb hb1 hb2
  have hsz : L.toArray.size = 2 := by rw [← hLL]; rfl
  have HLL := Lib.hid hLL
  clear hLL
  generalize hil : (⟨L.toArray⟩ : ByteArray) = il at *
  have HIL := Lib.hid hil
  have hsum2 : il.size + b.size ≤ 9223372036854775807 := by rw [← hil]; show L.toArray.size + b.size ≤ _; rw [hsz]; exact hsum
  clear hil hsz
  go_wp2_with fail
  go_ret2
  exact ⟨by rw [HLL.out, HIL.out]; rfl, hb3⟩
theorem wrMid_cells (a n : Nat) (ha : a < 256) (hn : 128 ≤ n ∧ n < 256) : [Value.int .u8 (a : Int)] ++ [.int .u8 129, .int .u8 (n : Int)] = Lib.byteCells (UInt8.ofNat a :: [129, UInt8.ofNat n]) := by
  have e0 := cell_byte a ha
  have e1 : ((UInt8.ofNat n).toNat : Int) = (n : Int) % 256 := by rw [UInt8.toNat_ofNat']; omega
  simp only [Lib.byteCells, List.map_cons, List.map_nil, List.cons_append, List.nil_append, e0, e1]
  rw [Int.emod_eq_of_lt (by omega) (by omega)]; rfl
set_option maxHeartbeats 2000000 in
theorem rwrMid_any (a : Nat) (b : ByteArray) (w : World) (ha : a < 256) (ht : isT (a : Int) = true) (hn : 128 ≤ b.size ∧ b.size < 256) :
    Calls Try.prog 16 #[.int .i64 (a : Int), .string b] w fun e w' => e = .returned (.tuple #[.string (⟨(UInt8.ofNat a :: [129, UInt8.ofNat b.size]).toArray⟩ ++ b), .int .i64 0]) ∧ Below w.heap.size w w' := by
  obtain ⟨i0, hi, hz0, hz1, hz2⟩ := info_parts info_u8
  have CT := Lib.hid (fun W => risTag_any (a : Int) W (by omega) (by omega))
  rw [ht] at CT
  have HC := Lib.hid (wrMid_cells a b.size ha hn)
  have d1 : decide ((65536 : Int) ≤ (b.size : Int)) = false := by simp; omega
  have d2 : decide ((b.size : Int) < 128) = false := by simp; omega
  have d3 : decide ((b.size : Int) < 256) = true := by simp; omega
  have wt : IntKind.u8.wrap (a : Int) = (a : Int) := by rw [IntKind.wrap_u8]; omega
  have hsum : 3 + b.size ≤ 9223372036854775807 := by omega
  have hb := Below.refl w.heap.size w
  clear ht
  go_enter Try.func16, Try.ntmps16
  go_wp2_with fail
  refine (CT.out w).mono ?_
  rintro e W1 ⟨rfl, bk⟩
  replace hb := hb.trans (bk.mono hb.size)
  clear bk CT
  have hb1 : Below w.heap.size w (W1.alloc (.cells #[.int .u8 (a : Int)] 5)) := hb.alloc hb.size _
  have hsz1 : w.heap.size ≤ (W1.alloc (.cells #[.int .u8 (a : Int)] 5)).heap.size := hb1.size
  have HO0 := Lib.hid (show (W1.alloc (.cells #[.int .u8 (a : Int)] 5)).ownsRow W1.heap.size 5 1 (.slice (some ⟨W1.heap.size, 0, none⟩) 1 1) 1 [.int .u8 (a : Int)] from
    ⟨rfl, .inr ⟨W1.heap.size, 1, _, rfl, Nat.le_refl _, blk_new W1 _, by omega, by unfold maxLen; omega, rfl, rfl⟩⟩)
  have HO1 := Lib.hid (HO0.out.alloc (.cells #[.int .u8 129, .int .u8 (b.size : Int)] 5))
  have HN := Lib.hid (row_news _ (W1.heap.size + 1) 5 [.int .u8 129, .int .u8 (b.size : Int)] (0, 0) (blk_new2 W1 (.cells #[.int .u8 (a : Int)] 5) (.cells #[.int .u8 129, .int .u8 (b.size : Int)] 5)))
  have hb2 : Below w.heap.size w ((W1.alloc (.cells #[.int .u8 (a : Int)] 5)).alloc (.cells #[.int .u8 129, .int .u8 (b.size : Int)] 5)) := hb1.alloc hsz1 _
  have hW1 := hb.size
  go_wp2_with (at_builtin; refine wpList_append_own _ rfl (.tmp 27) (.tmp 30) 46 rfl W1.heap.size 5 i0 (.int .u8 0) 1 1 Try.underlying46 hi hz0 hz1 hz2 rfl (by omega) (.slice (some ⟨W1.heap.size, 0, none⟩) 1 1) 1 _ rfl HO1.out ⟨W1.heap.size + 1, 0, none⟩ 2 2 [.int .u8 129, .int .u8 (b.size : Int)] rfl rfl HN.out ?b2 ?b3 ?b4 ?b5 ?_)
  case b2 => intro u hu; simp at hu; (first | (subst hu; rfl) | (rcases hu with rfl | rfl <;> rfl) | (rcases hu with rfl | rfl | rfl <;> rfl))
  case b3 => unfold maxLen; omega
  case b4 => omega
  case b5 => simp; omega
  intro v1 W2 hown1 hgrow1 _
  have hb3 : Below w.heap.size w W2 := hb2.grown hgrow1 hb2.size (fun k hk => by have := (World.ownsRow.lt HO1.out k hk).1; omega)
  have hxs := own_of_row hown1
  have e3 := HC.out
  simp only [List.cons_append, List.nil_append] at e3 hxs
  rw [e3] at hxs
  obtain ⟨g, cp, rfl, hoG, _⟩ := hxs.1.some (by rw [Lib.byteCells_length]; simp)
  rw [Lib.byteCells_length]
  generalize hLL : (UInt8.ofNat a :: [129, UInt8.ofNat b.size]) = L at *
  have hcv := run_string_row W2 g cp L (fun j x hx => hoG.cells j _ (by simp [Lib.byteCells, hx]))
  clear hoG hxs hown1 hgrow1 e3 HC HO0 HO1 HN hb hb1 hb2
  have hsz : L.toArray.size = 3 := by rw [← hLL]; rfl
  have HLL := Lib.hid hLL
  clear hLL
  generalize hil : (⟨L.toArray⟩ : ByteArray) = il at *
  have HIL := Lib.hid hil
  have hsum2 : il.size + b.size ≤ 9223372036854775807 := by rw [← hil]; show L.toArray.size + b.size ≤ _; rw [hsz]; exact hsum
  clear hil hsz
  go_wp2_with fail
  go_ret2
  exact ⟨by rw [HLL.out, HIL.out]; rfl, hb3⟩
theorem wrLong_cells (a n : Nat) (ha : a < 256) (hn : 256 ≤ n ∧ n < 65536) : [Value.int .u8 (a : Int)] ++ [.int .u8 130, .int .u8 ((n : Int) / 256), .int .u8 ((n : Int) % 256)] = Lib.byteCells (UInt8.ofNat a :: [130, UInt8.ofNat (n / 256), UInt8.ofNat n]) := by
  have e0 := cell_byte a ha
  have e1 : ((UInt8.ofNat n).toNat : Int) = (n : Int) % 256 := by rw [UInt8.toNat_ofNat']; omega
  simp only [Lib.byteCells, List.map_cons, List.map_nil, List.cons_append, List.nil_append, e0, e1]
  rw [cell_byte (n / 256) (by omega)]; rfl
set_option maxHeartbeats 2000000 in
theorem rwrLong_any (a : Nat) (b : ByteArray) (w : World) (ha : a < 256) (ht : isT (a : Int) = true) (hn : 256 ≤ b.size ∧ b.size < 65536) :
    Calls Try.prog 16 #[.int .i64 (a : Int), .string b] w fun e w' => e = .returned (.tuple #[.string (⟨(UInt8.ofNat a :: [130, UInt8.ofNat (b.size / 256), UInt8.ofNat b.size]).toArray⟩ ++ b), .int .i64 0]) ∧ Below w.heap.size w w' := by
  obtain ⟨i0, hi, hz0, hz1, hz2⟩ := info_parts info_u8
  have CT := Lib.hid (fun W => risTag_any (a : Int) W (by omega) (by omega))
  rw [ht] at CT
  have HC := Lib.hid (wrLong_cells a b.size ha hn)
  have d1 : decide ((65536 : Int) ≤ (b.size : Int)) = false := by simp; omega
  have d2 : decide ((b.size : Int) < 128) = false := by simp; omega
  have d3 : decide ((b.size : Int) < 256) = false := by simp; omega
  have wt : IntKind.u8.wrap (a : Int) = (a : Int) := by rw [IntKind.wrap_u8]; omega
  have hsum : 4 + b.size ≤ 9223372036854775807 := by omega
  have hb := Below.refl w.heap.size w
  clear ht
  go_enter Try.func16, Try.ntmps16
  go_wp2_with fail
  refine (CT.out w).mono ?_
  rintro e W1 ⟨rfl, bk⟩
  replace hb := hb.trans (bk.mono hb.size)
  clear bk CT
  have hb1 : Below w.heap.size w (W1.alloc (.cells #[.int .u8 (a : Int)] 5)) := hb.alloc hb.size _
  have hsz1 : w.heap.size ≤ (W1.alloc (.cells #[.int .u8 (a : Int)] 5)).heap.size := hb1.size
  have HO0 := Lib.hid (show (W1.alloc (.cells #[.int .u8 (a : Int)] 5)).ownsRow W1.heap.size 5 1 (.slice (some ⟨W1.heap.size, 0, none⟩) 1 1) 1 [.int .u8 (a : Int)] from
    ⟨rfl, .inr ⟨W1.heap.size, 1, _, rfl, Nat.le_refl _, blk_new W1 _, by omega, by unfold maxLen; omega, rfl, rfl⟩⟩)
  have HO1 := Lib.hid (HO0.out.alloc (.cells #[.int .u8 130, .int .u8 ((b.size : Int) / 256), .int .u8 ((b.size : Int) % 256)] 5))
  have HN := Lib.hid (row_news _ (W1.heap.size + 1) 5 [.int .u8 130, .int .u8 ((b.size : Int) / 256), .int .u8 ((b.size : Int) % 256)] (0, 0) (blk_new2 W1 (.cells #[.int .u8 (a : Int)] 5) (.cells #[.int .u8 130, .int .u8 ((b.size : Int) / 256), .int .u8 ((b.size : Int) % 256)] 5)))
  have hb2 : Below w.heap.size w ((W1.alloc (.cells #[.int .u8 (a : Int)] 5)).alloc (.cells #[.int .u8 130, .int .u8 ((b.size : Int) / 256), .int .u8 ((b.size : Int) % 256)] 5)) := hb1.alloc hsz1 _
  have hW1 := hb.size
  go_wp2_with (at_builtin; refine wpList_append_own _ rfl (.tmp 32) (.tmp 39) 46 rfl W1.heap.size 5 i0 (.int .u8 0) 1 1 Try.underlying46 hi hz0 hz1 hz2 rfl (by omega) (.slice (some ⟨W1.heap.size, 0, none⟩) 1 1) 1 _ rfl HO1.out ⟨W1.heap.size + 1, 0, none⟩ 3 3 [.int .u8 130, .int .u8 ((b.size : Int) / 256), .int .u8 ((b.size : Int) % 256)] rfl rfl HN.out ?b2 ?b3 ?b4 ?b5 ?_)
  case b2 => intro u hu; simp at hu; (first | (subst hu; rfl) | (rcases hu with rfl | rfl <;> rfl) | (rcases hu with rfl | rfl | rfl <;> rfl))
  case b3 => unfold maxLen; omega
  case b4 => omega
  case b5 => simp; omega
  intro v1 W2 hown1 hgrow1 _
  have hb3 : Below w.heap.size w W2 := hb2.grown hgrow1 hb2.size (fun k hk => by have := (World.ownsRow.lt HO1.out k hk).1; omega)
  have hxs := own_of_row hown1
  have e3 := HC.out
  simp only [List.cons_append, List.nil_append] at e3 hxs
  rw [e3] at hxs
  obtain ⟨g, cp, rfl, hoG, _⟩ := hxs.1.some (by rw [Lib.byteCells_length]; simp)
  rw [Lib.byteCells_length]
  generalize hLL : (UInt8.ofNat a :: [130, UInt8.ofNat (b.size / 256), UInt8.ofNat b.size]) = L at *
  have hcv := run_string_row W2 g cp L (fun j x hx => hoG.cells j _ (by simp [Lib.byteCells, hx]))
  clear hoG hxs hown1 hgrow1 e3 HC HO0 HO1 HN hb hb1 hb2
  have hsz : L.toArray.size = 4 := by rw [← hLL]; rfl
  have HLL := Lib.hid hLL
  clear hLL
  generalize hil : (⟨L.toArray⟩ : ByteArray) = il at *
  have HIL := Lib.hid hil
  have hsum2 : il.size + b.size ≤ 9223372036854775807 := by rw [← hil]; show L.toArray.size + b.size ≤ _; rw [hsz]; exact hsum
  clear hil hsz
  go_wp2_with fail
  go_ret2
  exact ⟨by rw [HLL.out, HIL.out]; rfl, hb3⟩
set_option maxHeartbeats 2000000 in
theorem rwrBad_any (n : Int) (b : ByteArray) (w : World) (h0 : -9223372036854775808 ≤ n) (h1 : n ≤ 9223372036854775807) (ht : isT n = false) :
    Calls Try.prog 16 #[.int .i64 n, .string b] w fun e w' => e = .returned (.tuple #[.string ⟨#[]⟩, .int .i64 1]) ∧ Below w.heap.size w w' := by
  have CT := Lib.hid (fun W => risTag_any n W h0 h1)
  rw [ht] at CT
  have hb := Below.refl w.heap.size w
  clear ht h0 h1
  go_enter Try.func16, Try.ntmps16
  go_wp2_with fail
  refine (CT.out w).mono ?_
  rintro e W1 ⟨rfl, bk⟩
  go_wp2_with fail
  go_ret2
  exact ⟨rfl, hb.trans (bk.mono hb.size)⟩
set_option maxHeartbeats 2000000 in
theorem rwrBig_any (n : Int) (b : ByteArray) (w : World) (h0 : -9223372036854775808 ≤ n) (h1 : n ≤ 9223372036854775807) (ht : isT n = true) (hb' : 65536 ≤ b.size) :
    Calls Try.prog 16 #[.int .i64 n, .string b] w fun e w' => e = .returned (.tuple #[.string ⟨#[]⟩, .int .i64 13]) ∧ Below w.heap.size w w' := by
  have CT := Lib.hid (fun W => risTag_any n W h0 h1)
  rw [ht] at CT
  have d1 : decide ((65536 : Int) ≤ (b.size : Int)) = true := by simp; omega
  have hb := Below.refl w.heap.size w
  clear ht h0 h1
  go_enter Try.func16, Try.ntmps16
  go_wp2_with fail
  refine (CT.out w).mono ?_
  rintro e W1 ⟨rfl, bk⟩
  go_wp2_with fail
  go_ret2
  exact ⟨rfl, hb.trans (bk.mono hb.size)⟩
theorem rWrite_any (n : Int) (b : ByteArray) (w : World) (h0 : -9223372036854775808 ≤ n) (h1 : n ≤ 9223372036854775807) :
    Calls Try.prog 16 #[.int .i64 n, .string b] w fun e w' => e = .returned (.tuple #[.string (wrX n b), .int .i64 (wrE n b)]) ∧ Below w.heap.size w w' := by
  cases ht : isT n with
  | false =>
    have e1 : wrE n b = 1 := by rw [wrE, ht]; rfl
    rw [wrX, e1, if_neg (by decide)]
    exact rwrBad_any n b w h0 h1 ht
  | true =>
    by_cases hbg : 65536 ≤ b.size
    · have e1 : wrE n b = 13 := by rw [wrE, ht, if_pos rfl, if_neg (by omega)]
      rw [wrX, e1, if_neg (by decide)]
      exact rwrBig_any n b w h0 h1 ht hbg
    · have e1 : wrE n b = 0 := by rw [wrE, ht, if_pos rfl, if_pos (by omega)]
      rw [wrX, e1, if_pos rfl, wrL, lenL]
      have hr : 0 ≤ n ∧ n ≤ 255 := by
        have h := ht
        simp only [isT, Bool.and_eq_true, decide_eq_true_eq] at h
        exact h.1
      obtain ⟨a, rfl⟩ : ∃ a : Nat, n = (a : Int) := ⟨n.toNat, by omega⟩
      rw [Int.toNat_natCast]
      by_cases c1 : b.size < 128
      · rw [if_pos c1]
        exact rwrShort_any a b w (by omega) ht c1
      · rw [if_neg c1]
        by_cases c2 : b.size < 256
        · rw [if_pos c2]
          exact rwrMid_any a b w (by omega) ht ⟨by omega, c2⟩
        · rw [if_neg c2]
          exact rwrLong_any a b w (by omega) ht ⟨by omega, by omega⟩
end Go.Proofs.Ytimokmhgpigliaa
