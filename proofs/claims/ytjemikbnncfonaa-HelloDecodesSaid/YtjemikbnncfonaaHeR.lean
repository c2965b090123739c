/- A message's small functions: the reference's. -/
import Derived.Test.YtjemikbnncfonaaHeB
import Derived.Test.YtjemikbnncfonaaDrNums
import Derived.BigQuiet
namespace Go.Proofs.Ytjemikbnncfonaa
open Go.RowKit Go.Sort
set_option maxRecDepth 100000
set_option linter.unusedSimpArgs false
set_option linter.unusedVariables false

theorem byte_text (b : UInt8) (w : World) : (convert 44 9 (.slice (some ⟨w.heap.size, 0, none⟩) 1 1)).run Try.prog (w.alloc (.cells #[.int .u8 (b.toNat : Int)] 5)) = .ok (.string (toB [b])) (w.alloc (.cells #[.int .u8 (b.toNat : Int)] 5)) :=
  text_row _ w.heap.size 1 1 [b] rfl (blk_new w _)
theorem run_string_ownF {W : World} {base n cap : Nat} {ao : Option Addr} {l : List UInt8} (h : Own W base (.slice ao n cap) (Lib.byteCells l)) (hl : l.length = n) (hp : 0 < n) : (convert 44 9 (.slice ao n cap)).run Try.prog W = .ok (.string ⟨l.toArray⟩) W := by
  obtain ⟨g, gc, hv, hown, _⟩ := h.some (by rw [Lib.byteCells_length]; omega)
  rw [hv, Lib.byteCells_length]
  exact run_string_row W g gc l fun j x hx => hown.cells j _ (by simp [Lib.byteCells, hx])
theorem nil_text (w : World) : (convert 44 9 (.slice none 0 0)).run Try.prog w = .ok (.string ⟨#[]⟩) w := by
  rw [run_convert_bytes_string w 44 9 5 _ _ _ Try.underlying44 Try.underlying5 Try.underlying9]
  rfl
theorem tdiv_in (x : Int) (h1 : -9223372036854775808 ≤ x) (h2 : x ≤ 9223372036854775807) : -9223372036854775808 ≤ x.tdiv 256 ∧ x.tdiv 256 ≤ 9223372036854775807 := by
  rcases Int.le_total 0 x with h | h
  · rw [Int.tdiv_eq_ediv_of_nonneg h]; omega
  · obtain ⟨y, rfl⟩ : ∃ y, x = -y := ⟨-x, by omega⟩
    rw [Int.neg_tdiv, Int.tdiv_eq_ediv_of_nonneg (by omega)]; omega
theorem c2_steps (s : ByteArray) : ∀ k, k < 2 → toB ((n2 s.size).take k) ++ toB [wbyte (s.size : Int) (8 * (1 - k))] = toB ((n2 s.size).take (k + 1)) := fun k hk => by
  rw [← toB_add]
  rcases (show k = 0 ∨ k = 1 by omega) with rfl | rfl <;> rfl
theorem c3_steps (s : ByteArray) : ∀ k, k < 3 → toB ((n3 s.size).take k) ++ toB [wbyte (s.size : Int) (8 * (2 - k))] = toB ((n3 s.size).take (k + 1)) := fun k hk => by
  rw [← toB_add]
  rcases (show k = 0 ∨ k = 1 ∨ k = 2 by omega) with rfl | rfl | rfl <;> rfl

set_option maxHeartbeats 2000000 in
theorem rc2_any (s : ByteArray) (w : World) (hs : s.size ≤ 1000000) :
    Calls Try.prog 18 #[.int .i64 2, .string s] w fun e w' => e = .returned (.string (c2 s)) ∧ Below w.heap.size w w' := by
  have hb := Below.refl w.heap.size w
  have HC := Lib.hid (c2_steps s)
  have hl : ∀ k, k ≤ 2 → (toB ((n2 s.size).take k)).size ≤ 2 := fun k hk => by rw [toB_size, List.length_take]; omega
  have HS := Lib.hid hs
  have hs1 : 2 + s.size ≤ 9223372036854775807 := by omega
  clear hs
  go_enter Try.func18, Try.ntmps18
  go_wp2_with fail
  generalize hBB : w.heap.size = B at *
  have HBB := Lib.hid hBB
  have hszB : B ≤ w.heap.size := by omega
  clear hBB
  go_loopw [5, 6] (fun ov iv wr => ∃ (k : Nat), k ≤ 2 ∧ iv = .int .i64 (1 - (k : Int)) ∧ ov = .string (toB ((n2 s.size).take k)) ∧ Below B w wr ∧ B ≤ wr.heap.size) (fun _ iv _ => (intOf iv + 1).toNat)
  case atStart => exact ⟨0, by omega, rfl, rfl, hb, hszB⟩
  case round =>
    clear hb
    obtain ⟨k, hk, rfl, rfl, hb, hB⟩ := hrel
    have hs2 := hl k hk
    by_cases hlt : k < 2
    · obtain ⟨i, hii⟩ : ∃ i, i = 1 - k := ⟨_, rfl⟩
      have hi7 : (1 : Int) - (k : Int) = (i : Int) := by omega
      have hd : decide ((0 : Int) ≤ (i : Int)) = true := by simp
      have HSn := Lib.hid (HC.out k hlt)
      rw [← hii] at HSn
      have hs0 : (0 : Int) ≤ 8 * (i : Int) := by omega
      have hw8 : IntKind.i64.wrap (8 * (i : Int)) = 8 * (i : Int) := by rw [IntKind.wrap_i64]; omega
      have hT : ((8 : Int) * (i : Int)).toNat = 8 * i := by omega
      generalize toB ((n2 s.size).take k) = t at *
      have hcv := byte_text (wbyte (s.size : Int) (8 * i)) wr
      rw [wbyte_toNat] at hcv
      have hbt := toB_size [wbyte (s.size : Int) (8 * i)]
      generalize toB [wbyte (s.size : Int) (8 * i)] = b at *
      have ht1 : t.size + b.size ≤ 9223372036854775807 := by rw [hbt]; show t.size + 1 ≤ _; omega
      rw [hi7]
      clear hii hbt
      go_wp2_with fail
      go_roundw
      case rel => exact ⟨k + 1, by omega, by go_num, by rw [← HSn.out], hb.alloc hB _, by simp; omega⟩
      case measure => first | (simp [intOf]; omega) | simp [intOf]
    · obtain rfl : k = 2 := by omega
      have hd : decide ((0 : Int) ≤ -1) = false := by decide
      rw [show (1 : Int) - ((2 : Nat) : Int) = -1 from rfl]
      have HF : Hid (toB ((n2 s.size).take 2) ++ s = c2 s) := Lib.hid rfl
      generalize toB ((n2 s.size).take 2) = t at *
      have ht1 : t.size + s.size ≤ 9223372036854775807 := by omega
      clear HC hl
      go_wp2_with fail
      go_ret
      exact ⟨by rw [← HF.out]; rfl, by rw [HBB.out]; exact hb⟩
set_option maxHeartbeats 2000000 in
theorem rc3_any (s : ByteArray) (w : World) (hs : s.size ≤ 1000000) :
    Calls Try.prog 18 #[.int .i64 3, .string s] w fun e w' => e = .returned (.string (c3 s)) ∧ Below w.heap.size w w' := by
  have hb := Below.refl w.heap.size w
  have HC := Lib.hid (c3_steps s)
  have hl : ∀ k, k ≤ 3 → (toB ((n3 s.size).take k)).size ≤ 3 := fun k hk => by rw [toB_size, List.length_take]; omega
  have HS := Lib.hid hs
  have hs1 : 3 + s.size ≤ 9223372036854775807 := by omega
  clear hs
  go_enter Try.func18, Try.ntmps18
  go_wp2_with fail
  generalize hBB : w.heap.size = B at *
  have HBB := Lib.hid hBB
  have hszB : B ≤ w.heap.size := by omega
  clear hBB
  go_loopw [5, 6] (fun ov iv wr => ∃ (k : Nat), k ≤ 3 ∧ iv = .int .i64 (2 - (k : Int)) ∧ ov = .string (toB ((n3 s.size).take k)) ∧ Below B w wr ∧ B ≤ wr.heap.size) (fun _ iv _ => (intOf iv + 1).toNat)
  case atStart => exact ⟨0, by omega, rfl, rfl, hb, hszB⟩
  case round =>
    clear hb
    obtain ⟨k, hk, rfl, rfl, hb, hB⟩ := hrel
    have hs2 := hl k hk
    by_cases hlt : k < 3
    · obtain ⟨i, hii⟩ : ∃ i, i = 2 - k := ⟨_, rfl⟩
      have hi7 : (2 : Int) - (k : Int) = (i : Int) := by omega
      have hd : decide ((0 : Int) ≤ (i : Int)) = true := by simp
      have HSn := Lib.hid (HC.out k hlt)
      rw [← hii] at HSn
      have hs0 : (0 : Int) ≤ 8 * (i : Int) := by omega
      have hw8 : IntKind.i64.wrap (8 * (i : Int)) = 8 * (i : Int) := by rw [IntKind.wrap_i64]; omega
      have hT : ((8 : Int) * (i : Int)).toNat = 8 * i := by omega
      generalize toB ((n3 s.size).take k) = t at *
      have hcv := byte_text (wbyte (s.size : Int) (8 * i)) wr
      rw [wbyte_toNat] at hcv
      have hbt := toB_size [wbyte (s.size : Int) (8 * i)]
      generalize toB [wbyte (s.size : Int) (8 * i)] = b at *
      have ht1 : t.size + b.size ≤ 9223372036854775807 := by rw [hbt]; show t.size + 1 ≤ _; omega
      rw [hi7]
      clear hii hbt
      go_wp2_with fail
      go_roundw
      case rel => exact ⟨k + 1, by omega, by go_num, by rw [← HSn.out], hb.alloc hB _, by simp; omega⟩
      case measure => first | (simp [intOf]; omega) | simp [intOf]
    · obtain rfl : k = 3 := by omega
      have hd : decide ((0 : Int) ≤ -1) = false := by decide
      rw [show (2 : Int) - ((3 : Nat) : Int) = -1 from rfl]
      have HF : Hid (toB ((n3 s.size).take 3) ++ s = c3 s) := Lib.hid rfl
      generalize toB ((n3 s.size).take 3) = t at *
      have ht1 : t.size + s.size ≤ 9223372036854775807 := by omega
      clear HC hl
      go_wp2_with fail
      go_ret
      exact ⟨by rw [← HF.out]; rfl, by rw [HBB.out]; exact hb⟩
theorem su_bytes (su : List Int) (k : Nat) (x : Int) (hx : su[k]? = some x) : Lib.byteCells (suL (su.take k)) ++ [.int .u8 (x.tdiv 256 % 256), .int .u8 (x.tmod 256 % 256)] = Lib.byteCells (suL (su.take (k + 1))) := by
  obtain ⟨hk, rfl⟩ := List.getElem?_eq_some_iff.1 hx
  rw [List.take_succ_eq_append_getElem hk, suL_append, Lib.byteCells_append]
  congr 1
  simp only [suL, suP, List.append_nil, Lib.byteCells, List.map_cons, List.map_nil, wbyte_toNat]
  simp
set_option maxHeartbeats 2000000 in
theorem rsuites_any (ao : Option Addr) (n c : Nat) (su : List Int) (w : World) (hn : su.length = n) (hm : n ≤ 1000000) (hz : ∀ k, -9223372036854775808 ≤ su.getD k 0 ∧ su.getD k 0 ≤ 9223372036854775807) (hI : IntsAt w ao su) :
    Calls Try.prog 30 #[.slice ao n c] w fun e w' => e = .returned (.string (toB (suL su))) ∧ Below w.heap.size w w' := by
  obtain ⟨i0, hi, hz0, hz1, hz2⟩ := info_parts info_u8
  have HI := Lib.hid hI
  have HN := Lib.hid hn
  have HZ := Lib.hid hz
  have hb0 := Below.refl w.heap.size w
  clear hI hn hz
  go_enter Try.func30, Try.ntmps30
  go_wp2_with fail
  generalize hBB : w.heap.size = B at *
  have HBB := Lib.hid hBB
  have hszB : B ≤ w.heap.size := by omega
  clear hBB
  go_loopw [3, 4] (fun lv iv wr => ∃ (k m : Nat) (a2 : Option Addr) (cap : Nat), k ≤ n ∧ m = 2 * k ∧ iv = .int .i64 (k : Int) ∧ lv = .slice a2 m cap ∧ Own wr B (.slice a2 m cap) (Lib.byteCells (suL (su.take k))) ∧ Below B w wr ∧ B ≤ wr.heap.size ∧ (k = 0 → a2 = none ∧ cap = 0)) (fun _ iv _ => n - (intOf iv).toNat)
  case atStart => exact ⟨0, 0, none, 0, by omega, rfl, rfl, rfl, Own.nil _ _, hb0, hszB, fun _ => ⟨rfl, rfl⟩⟩
  case round =>
    clear hb0
    obtain ⟨k, m, a2, cap, hk, hm2, rfl, rfl, hown, hb, hsz, hnil⟩ := hrel
    have HNL := Lib.hid hnil
    clear hnil
    have HO := Lib.hid hown
    have HL := Lib.hid (show (Lib.byteCells (suL (su.take k))).length = m by rw [Lib.byteCells_length, suL_length, List.length_take, HN.out]; omega)
    clear hown
    by_cases hlt : k < n
    · have hdk : decide ((k : Int) < (n : Int)) = true := by simp; omega
      have hkn : (k : Int) < (n : Int) := by omega
      obtain ⟨g, off, rfl, hcell⟩ := (HI.out.step (by rw [HBB.out]; exact hb)) k (by rw [HN.out]; exact hlt)
      have hx : su[k]? = some (su.getD k 0) := by rw [List.getD_eq_getElem?_getD, List.getElem?_eq_getElem (by rw [HN.out]; exact hlt)]; rfl
      have HNS := Lib.hid (su_bytes su k _ hx)
      have hz1' := (HZ.out k).1
      have hz2' := (HZ.out k).2
      clear hx HZ
      generalize su.getD k 0 = x at *
      have w0 : IntKind.u8.wrap (x.tdiv 256) = x.tdiv 256 % 256 := IntKind.wrap_u8 _
      have w1 : IntKind.u8.wrap (x.tmod 256) = x.tmod 256 % 256 := IntKind.wrap_u8 _
      have w2 : IntKind.i64.wrap (x.tdiv 256) = x.tdiv 256 := by have := tdiv_in x hz1' hz2'; rw [IntKind.wrap_i64]; omega
      have HNE := Lib.hid (show 2 * (k + 1) = m + 2 by omega)
      have hm3 : m ≤ 2000000 := by omega
      clear hm2
      go_wp2_with fail
      have ka := cell_regrown hcell
      refine wp_region_moves_tail 13 (.tmp 3) rfl rfl rfl (by kernel_rfl) (by kernel_rfl) (fun _ _ _ _ h => h) ?_
      simp only [Nat.reduceSub, List.take_succ_cons, List.take_zero, List.drop_succ_cons, List.drop_zero]
      repeat (first | go_big_quiet_step (fail) | quiet_step (fail))
      refine wpQuiet_nil ?_
      intro W1 hb1
      have HO1 := Lib.hid (HO.out.below hb1)
      have hB1 : Below B w W1 := hb.trans (hb1.mono hsz)
      have hsz1 : B ≤ W1.heap.size := Nat.le_trans hsz hb1.size
      clear HO hb hb1 hsz ka hcell
      go_wp2_with (at_builtin; refine wpList_append_sl rfl (.tmp 11) (.tmp 24) 44 rfl B 5 i0 (.int .u8 0) 1 Try.underlying44 hi hz0 hz1 hz2 rfl a2 m cap _ rfl (HO1.out.alloc _) HL.out ⟨W1.heap.size, 0, none⟩ 2 2 [.int .u8 (x.tdiv 256 % 256), .int .u8 (x.tmod 256 % 256)] rfl rfl (cell_two_new _ _ _ _) ?b2 ?b3 ?b4 ?b5 ?_)
      case b2 => intro u hu; simp at hu; rcases hu with rfl | rfl <;> rfl
      case b3 => omega
      case b4 => omega
      case b5 => simp; omega
      intro ao5 cp5 W5 hown5 hgrow5
      have hb5 : Below B w W5 := below_append (hB1.alloc hsz1 _) (by simp; omega) (HO1.out.alloc _) hgrow5
      have hsz5 : B ≤ W5.heap.size := by have := hgrow5.size; simp at this; omega
      rw [HNS.out] at hown5
      clear hgrow5 HO1 hB1
      go_wp2_with fail
      go_roundw
      case rel => exact ⟨k + 1, m + 2, ao5, cp5, by omega, HNE.out.symm, by go_num, rfl, hown5, hb5, hsz5, fun h => absurd h (by omega)⟩
      case measure => simp [intOf]; omega
    · have hdk : decide ((k : Int) < (n : Int)) = false := by simp; omega
      obtain rfl : k = n := by omega
      have hown := HO.out
      rw [List.take_of_length_le (by rw [HN.out]; exact Nat.le_refl _)] at hown
      by_cases hz : k = 0
      · obtain ⟨rfl, rfl⟩ := HNL.out hz
        subst hz
        obtain rfl : m = 0 := by omega
        have he : suL su = [] := by rw [List.length_eq_zero_iff.1 HN.out]; rfl
        have HE := Lib.hid he
        have hc := nil_text wr
        clear he HO HL hown HZ HNL hm2
        go_wp2_with fail
        go_ret
        exact ⟨by rw [HE.out]; rfl, by rw [HBB.out]; exact hb⟩
      · have hc := run_string_ownF hown (by rw [suL_length, HN.out]; exact hm2.symm) (by omega)
        generalize hrow : suL su = row at *
        have HROW := Lib.hid hrow
        clear hrow HO HL hown HZ HNL hm2
        go_wp2_with fail
        go_ret
        exact ⟨by rw [HROW.out]; rfl, by rw [HBB.out]; exact hb⟩
end Go.Proofs.Ytjemikbnncfonaa
