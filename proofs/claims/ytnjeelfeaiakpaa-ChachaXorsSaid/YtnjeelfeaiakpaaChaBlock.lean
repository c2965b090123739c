/- The reference's Block: a block of a key's stream. -/
import Derived.Test.YtnjeelfeaiakpaaChaNum
namespace Go.Proofs.Ytnjeelfeaiakpaa
open Go.RowKit Go.Sort
set_option maxRecDepth 100000
set_option linter.unusedSimpArgs false
set_option linter.unusedVariables false

theorem own_new (w : World) (xs : List Value) (t : TypeId) : Own (w.alloc (.cells xs.toArray t)) w.heap.size (.slice (some ⟨w.heap.size, 0, none⟩) xs.length xs.length) xs := by
  refine .inr ⟨w.heap.size, xs.length, rfl, Nat.le_refl _, Nat.le_refl _, fun j u hj => ?_, fun j hj => ?_⟩
  · rw [cell_of_row _ _ _ _ _ _ (blk_new w _)]; simpa using hj
  · rw [cell_of_row _ _ _ _ _ _ (blk_new w _)]
    exact ⟨by simp [hj], frozen_of_row _ _ _ _ _ (blk_new w _)⟩
theorem OwnS.news {W : World} {base g cap : Nat} {xs : List Value} (h : OwnS W base g cap xs) : ∀ j u, xs[j]? = some u → W.cell? ((⟨g, 0, none⟩ : Addr).add j) = some u := fun j u hj => by
  rw [Addr.add_lit, Nat.zero_add]; exact h.cells j u hj
theorem u32s_one (l : List Int) : ∀ u ∈ u32s l, u.oneCell' = true := by
  intro u hu
  simp only [u32s, List.mem_map] at hu
  obtain ⟨_, _, rfl⟩ := hu; rfl
theorem four_new (w : World) (a b c d : Value) (t : TypeId) : ∀ j u, [a, b, c, d][j]? = some u → (w.alloc (.cells #[a, b, c, d] t)).cell? ((⟨w.heap.size, 0, none⟩ : Addr).add j) = some u := fun j u hj => by
  rw [Addr.add_lit, Nat.zero_add, cell_of_row _ _ _ _ _ _ (blk_new w _)]
  simpa using hj
theorem outB_take (v f : List Int) (n d : Nat) : outB v f (n + d) = outB v f n ++ (outB v f (n + d)).drop (4 * n) := by
  have h : (outB v f (n + d)).take (4 * n) = outB v f n := by
    induction d with
    | zero => rw [Nat.add_zero, List.take_of_length_le (by rw [outB_length]; omega)]
    | succ d ih => rw [← Nat.add_assoc, outB, List.take_append, ih, outB_length, show 4 * n - 4 * (n + d) = 0 by omega]; simp
  conv => lhs; rw [← List.take_append_drop (4 * n) (outB v f (n + d)), h]

set_option maxHeartbeats 4000000 in
theorem refBlock_any (key nonce : ByteArray) (n : Nat) (w : World) (hk : key.size = 32) (hn : nonce.size = 12) (hnn : n ≤ 4294967295) :
    Calls Try.prog 8 #[.string key, .string nonce, .int .i64 (n : Int)] w fun e w' => e = .returned (.tuple #[.string ⟨(chaB key.data.toList nonce.data.toList n).toArray⟩, .int .i64 0]) ∧ Below w.heap.size w w' := by
  obtain ⟨i0, hi, hz0, hz1, hz2⟩ := info_parts info_u32
  obtain ⟨i8, hi8, hy0, hy1, hy2⟩ := info_parts info_u8
  have hd1 : ((key.size : Int) != 32) = false := by simp [hk]
  have hd2 : ((nonce.size : Int) != 12) = false := by simp [hn]
  have hd3 : decide ((n : Int) < 0) = false := by simp
  have hd4 : decide ((4294967295 : Int) < (n : Int)) = false := by simp; omega
  have HK := Lib.hid hk; have HNn := Lib.hid hn
  clear hk hn
  have HO0 := Lib.hid (own_new w (u32s [1634760805, 857760878, 2036477234, 1797285236]) 34)
  have hB0 := below_new w (.cells (u32s [1634760805, 857760878, 2036477234, 1797285236]).toArray 34)
  have hs0 : w.heap.size ≤ (w.alloc (.cells (u32s [1634760805, 857760878, 2036477234, 1797285236]).toArray 34)).heap.size := by simp
  have eW : (w.alloc (.cells (u32s [1634760805, 857760878, 2036477234, 1797285236]).toArray 34)) = (w.alloc (.cells #[.int .u32 1634760805, .int .u32 857760878, .int .u32 2036477234, .int .u32 1797285236] 34)) := rfl
  rw [eW] at HO0 hB0 hs0
  clear eW
  go_enter Try.func8, Try.ntmps8
  go_wp2_with fail
  generalize (w.alloc _) = W0 at *
  generalize hBB : w.heap.size = B at *
  have HBB := Lib.hid hBB
  clear hBB
  refine (numbers_any key 8 W0 HK.out (by omega)).mono ?_
  rintro e W1 ⟨ao1, cp1, rfl, hon1, hb1⟩
  obtain ⟨g1, cq1, hv1, hos1, _⟩ := hon1.some (by rw [u32s_length, lws_length]; omega)
  rw [u32s_length, lws_length] at hv1
  cases hv1
  have HN1 := Lib.hid hos1.news
  have hB1 : Below B w W1 := hB0.trans (hb1.mono hs0)
  have hs1 := Nat.le_trans hs0 hb1.size
  have HO1 := Lib.hid (HO0.out.below hb1)
  clear HO0 hB0 hos1 hon1 hb1 hs0
  go_wp2_with (at_builtin; refine wpList_append_sl rfl (.tmp 29) (.tmp 31) 39 rfl B 34 i0 (.int .u32 0) 4 Try.underlying39 hi hz0 hz1 hz2 rfl (some ⟨B, 0, none⟩) 4 4 _ rfl HO1.out rfl ⟨g1, 0, none⟩ 8 cp1 (u32s (lws key.data.toList 8)) rfl (by rw [u32s_length, lws_length]) HN1.out (u32s_one _) ?a3 ?a4 ?a5 ?_)
  case a3 => omega
  case a4 => omega
  case a5 => exact hs1
  intro ao2 cp2 W2 hown2 hgrow2
  rw [u32s_append] at hown2
  have hB2 : Below B w W2 := below_append hB1 hs1 HO1.out hgrow2
  have hs2 : B ≤ W2.heap.size := Nat.le_trans hs1 hgrow2.size
  have HO2 := Lib.hid hown2
  have HL2 := Lib.hid (show (u32s ([1634760805, 857760878, 2036477234, 1797285236] ++ lws key.data.toList 8)).length = 12 from by simp [u32s_length, lws_length])
  clear hown2 hgrow2 HO1 HN1 hB1 hs1
  have hnm : (n : Int) % 4294967296 = (n : Int) := by omega
  go_wp2_with (at_builtin; refine wpList_append_sl rfl (.tmp 33) (.tmp 36) 39 rfl B 34 i0 (.int .u32 0) 4 Try.underlying39 hi hz0 hz1 hz2 rfl ao2 12 cp2 _ rfl (HO2.out.alloc _) HL2.out ⟨W2.heap.size, 0, none⟩ 1 1 [.int .u32 (n : Int)] rfl rfl (cell_one_new _ _ _) ?b2 ?b3 ?b4 ?b5 ?_)
  case b2 => intro u hu; simp at hu; subst hu; rfl
  case b3 => omega
  case b4 => omega
  case b5 => simp; omega
  intro ao3 cp3 W3 hown3 hgrow3
  rw [u32s_snoc] at hown3
  have hB3 : Below B w W3 := below_append (hB2.alloc hs2 _) (by simp; omega) (HO2.out.alloc _) hgrow3
  have hs3 : B ≤ W3.heap.size := by have := hgrow3.size; simp at this; omega
  have HO3 := Lib.hid hown3
  clear hown3 hgrow3 HO2 HL2 hB2 hs2
  go_wp2_with fail
  refine (numbers_any nonce 3 W3 HNn.out (by omega)).mono ?_
  rintro e W4 ⟨ao4, cp4, rfl, hon4, hb4⟩
  obtain ⟨g4, cq4, hv4, hos4, _⟩ := hon4.some (by rw [u32s_length, lws_length]; omega)
  rw [u32s_length, lws_length] at hv4
  cases hv4
  have HN4 := Lib.hid hos4.news
  have hB4 : Below B w W4 := hB3.trans (hb4.mono hs3)
  have hs4 := Nat.le_trans hs3 hb4.size
  have HO4 := Lib.hid (HO3.out.below hb4)
  have HL4 := Lib.hid (show (u32s (([1634760805, 857760878, 2036477234, 1797285236] ++ lws key.data.toList 8) ++ [(n : Int)])).length = 13 from by simp [u32s_length, lws_length])
  clear HO3 hB3 hos4 hon4 hb4 hs3
  go_wp2_with (at_builtin; refine wpList_append_sl rfl (.tmp 38) (.tmp 40) 39 rfl B 34 i0 (.int .u32 0) 4 Try.underlying39 hi hz0 hz1 hz2 rfl ao3 13 cp3 _ rfl HO4.out HL4.out ⟨g4, 0, none⟩ 3 cp4 (u32s (lws nonce.data.toList 3)) rfl (by rw [u32s_length, lws_length]) HN4.out (u32s_one _) ?c3 ?c4 ?c5 ?_)
  case c3 => omega
  case c4 => omega
  case c5 => exact hs4
  intro ao5 cp5 W5 hown5 hgrow5
  rw [u32s_append] at hown5
  have hB5 : Below B w W5 := below_append hB4 hs4 HO4.out hgrow5
  have hs5 : B ≤ W5.heap.size := Nat.le_trans hs4 hgrow5.size
  have HF : Hid (firstL key.data.toList nonce.data.toList n = ([1634760805, 857760878, 2036477234, 1797285236] ++ lws key.data.toList 8) ++ [(n : Int)] ++ lws nonce.data.toList 3) := Lib.hid rfl
  have hown5f : Own W5 B (.slice ao5 16 cp5) (u32s (firstL key.data.toList nonce.data.toList n)) := by rw [HF.out]; simpa using hown5
  clear hown5
  have HFL := Lib.hid (firstL_length key.data.toList nonce.data.toList n)
  have HCB : Hid (chaB key.data.toList nonce.data.toList n = outB (roundsL (firstL key.data.toList nonce.data.toList n) 10) (firstL key.data.toList nonce.data.toList n) 16) := Lib.hid rfl
  generalize firstL key.data.toList nonce.data.toList n = fl at *
  obtain ⟨F, cF, hvF, hosF, _⟩ := hown5f.some (by rw [u32s_length, HFL.out]; omega)
  rw [u32s_length, HFL.out] at hvF
  cases hvF
  have HNF := Lib.hid hosF.news
  have HcF := Lib.hid (show ∀ j, j < 16 → W5.cell? ⟨F, j, none⟩ = some (.int .u32 (fl.getD j 0)) from fun j hj => hosF.cells j _ (u32s_get fl j (by rw [HFL.out]; exact hj)))
  have hFB := hosF.base
  clear HF HO4 HL4 HN4 hown5f hgrow5 hosF hB4 hs4 hnm
  go_wp2_with (at_builtin; refine wpList_append_sl rfl (.tmp 42) (.tmp 43) 39 rfl W5.heap.size 34 i0 (.int .u32 0) 4 Try.underlying39 hi hz0 hz1 hz2 rfl none 0 0 [] rfl (Own.nil _ _) rfl ⟨F, 0, none⟩ 16 cp5 (u32s fl) rfl (by rw [u32s_length, HFL.out]) HNF.out (u32s_one _) ?e3 ?e4 ?e5 ?_)
  case e3 => omega
  case e4 => omega
  case e5 => exact Nat.le_refl _
  intro ao6 cp6 W6 hown6 hgrow6
  try simp only [Nat.zero_add, List.nil_append] at hown6
  try simp only [Nat.zero_add]
  have hb6 : Below W5.heap.size W5 W6 := (Below.refl _ W5).grown hgrow6 (Nat.le_refl _) (by intro k hk; simp [Value.ownBlock] at hk)
  obtain ⟨V, cV, hvV, hosV, hVlt⟩ := hown6.some (by rw [u32s_length, HFL.out]; omega)
  rw [u32s_length, HFL.out] at hvV
  cases hvV
  have hcF6 : ∀ j, j < 16 → W6.cell? ⟨F, j, none⟩ = some (.int .u32 (fl.getD j 0)) := fun j hj => (hb6.cell (block_lt_of_cell (HcF.out j hj))).trans (HcF.out j hj)
  have hFlt := block_lt_of_cell (HcF.out 0 (by omega))
  have hVF : F < V := Nat.lt_of_lt_of_le hFlt hosV.base
  have hQ6 : QInv W6 V (roundsL fl 0) := ⟨HFL.out, fun j hj => hosV.cells j _ (u32s_get fl j (by rw [HFL.out]; exact hj)), fun j hj => (hosV.room j (by have := hosV.le; rw [u32s_length, HFL.out] at this; omega)).2⟩
  have hB6 : Below B w W6 := hB5.trans (hb6.mono hs5)
  have hs6 := Nat.le_trans hs5 hb6.size
  have hBV : B ≤ V := Nat.le_of_lt (Nat.lt_of_le_of_lt hFB hVF)
  have HcF6 := Lib.hid hcF6; have HQ6 := Lib.hid hQ6
  clear HcF hcF6 hQ6 hosV hown6 hgrow6 hb6 hVlt HNF hB5 hs5 hFlt
  go_wp2_with fail
  go_loopw [10] (fun iv wr => ∃ k : Nat, k ≤ 10 ∧ iv = .int .i64 k ∧ QInv wr V (roundsL fl k) ∧ (∀ j, j < 16 → wr.cell? ⟨F, j, none⟩ = some (.int .u32 (fl.getD j 0))) ∧ Below B w wr ∧ B ≤ wr.heap.size) (fun iv _ => 10 - (intOf iv).toNat)
  case atStart => exact ⟨0, by omega, rfl, HQ6.out, HcF6.out, hB6, hs6⟩
  case round =>
    clear HQ6 HcF6 hB6 hs6
    obtain ⟨k, hk, rfl, hq, hcf, hb, hsz⟩ := hrel
    have HQ0 := Lib.hid hq; have HC0 := Lib.hid hcf
    clear hq hcf
    by_cases hk10 : k < 10
    · have hdk : decide ((k : Int) < 10) = true := by simp; omega
      have HR : Hid (roundsL fl (k + 1) = qrL (qrL (qrL (qrL (qrL (qrL (qrL (qrL (roundsL fl k) 0 4 8 12) 1 5 9 13) 2 6 10 14) 3 7 11 15) 0 5 10 15) 1 6 11 12) 2 7 8 13) 3 4 9 14) := Lib.hid rfl
      generalize roundsL fl k = v0 at *
      go_wp2_with fail
      refine (quarter_any V cp6 0 4 8 12 v0 wr (by omega) (by omega) (by omega) (by omega) HQ0.out).mono ?_
      rintro e Z1 ⟨rfl, hq, hbut⟩
      have HC1 := Lib.hid (show ∀ j, j < 16 → Z1.cell? ⟨F, j, none⟩ = some (.int .u32 (fl.getD j 0)) from fun j hj => (World.cell?_of_block (a := ⟨F, j, none⟩) (hbut.block F (block_lt_of_cell (HC0.out j hj)) (by omega))).trans (HC0.out j hj))
      have hB1 : Below B w Z1 := hb.trans (hbut.below hBV hsz)
      have hS1 := Nat.le_trans hsz hbut.size
      generalize hv1 : qrL v0 0 4 8 12 = v1 at *
      have HQ1 := Lib.hid hq
      clear hq hbut hv1 HQ0 HC0 hb hsz
      go_wp2_with fail
      refine (quarter_any V cp6 1 5 9 13 v1 Z1 (by omega) (by omega) (by omega) (by omega) HQ1.out).mono ?_
      rintro e Z2 ⟨rfl, hq, hbut⟩
      have HC2 := Lib.hid (show ∀ j, j < 16 → Z2.cell? ⟨F, j, none⟩ = some (.int .u32 (fl.getD j 0)) from fun j hj => (World.cell?_of_block (a := ⟨F, j, none⟩) (hbut.block F (block_lt_of_cell (HC1.out j hj)) (by omega))).trans (HC1.out j hj))
      have hB2 : Below B w Z2 := hB1.trans (hbut.below hBV hS1)
      have hS2 := Nat.le_trans hS1 hbut.size
      generalize hv2 : qrL v1 1 5 9 13 = v2 at *
      have HQ2 := Lib.hid hq
      clear hq hbut hv2 HQ1 HC1 hB1 hS1
      go_wp2_with fail
      refine (quarter_any V cp6 2 6 10 14 v2 Z2 (by omega) (by omega) (by omega) (by omega) HQ2.out).mono ?_
      rintro e Z3 ⟨rfl, hq, hbut⟩
      have HC3 := Lib.hid (show ∀ j, j < 16 → Z3.cell? ⟨F, j, none⟩ = some (.int .u32 (fl.getD j 0)) from fun j hj => (World.cell?_of_block (a := ⟨F, j, none⟩) (hbut.block F (block_lt_of_cell (HC2.out j hj)) (by omega))).trans (HC2.out j hj))
      have hB3 : Below B w Z3 := hB2.trans (hbut.below hBV hS2)
      have hS3 := Nat.le_trans hS2 hbut.size
      generalize hv3 : qrL v2 2 6 10 14 = v3 at *
      have HQ3 := Lib.hid hq
      clear hq hbut hv3 HQ2 HC2 hB2 hS2
      go_wp2_with fail
      refine (quarter_any V cp6 3 7 11 15 v3 Z3 (by omega) (by omega) (by omega) (by omega) HQ3.out).mono ?_
      rintro e Z4 ⟨rfl, hq, hbut⟩
      have HC4 := Lib.hid (show ∀ j, j < 16 → Z4.cell? ⟨F, j, none⟩ = some (.int .u32 (fl.getD j 0)) from fun j hj => (World.cell?_of_block (a := ⟨F, j, none⟩) (hbut.block F (block_lt_of_cell (HC3.out j hj)) (by omega))).trans (HC3.out j hj))
      have hB4 : Below B w Z4 := hB3.trans (hbut.below hBV hS3)
      have hS4 := Nat.le_trans hS3 hbut.size
      generalize hv4 : qrL v3 3 7 11 15 = v4 at *
      have HQ4 := Lib.hid hq
      clear hq hbut hv4 HQ3 HC3 hB3 hS3
      go_wp2_with fail
      refine (quarter_any V cp6 0 5 10 15 v4 Z4 (by omega) (by omega) (by omega) (by omega) HQ4.out).mono ?_
      rintro e Z5 ⟨rfl, hq, hbut⟩
      have HC5 := Lib.hid (show ∀ j, j < 16 → Z5.cell? ⟨F, j, none⟩ = some (.int .u32 (fl.getD j 0)) from fun j hj => (World.cell?_of_block (a := ⟨F, j, none⟩) (hbut.block F (block_lt_of_cell (HC4.out j hj)) (by omega))).trans (HC4.out j hj))
      have hB5 : Below B w Z5 := hB4.trans (hbut.below hBV hS4)
      have hS5 := Nat.le_trans hS4 hbut.size
      generalize hv5 : qrL v4 0 5 10 15 = v5 at *
      have HQ5 := Lib.hid hq
      clear hq hbut hv5 HQ4 HC4 hB4 hS4
      go_wp2_with fail
      refine (quarter_any V cp6 1 6 11 12 v5 Z5 (by omega) (by omega) (by omega) (by omega) HQ5.out).mono ?_
      rintro e Z6 ⟨rfl, hq, hbut⟩
      have HC6 := Lib.hid (show ∀ j, j < 16 → Z6.cell? ⟨F, j, none⟩ = some (.int .u32 (fl.getD j 0)) from fun j hj => (World.cell?_of_block (a := ⟨F, j, none⟩) (hbut.block F (block_lt_of_cell (HC5.out j hj)) (by omega))).trans (HC5.out j hj))
      have hB6 : Below B w Z6 := hB5.trans (hbut.below hBV hS5)
      have hS6 := Nat.le_trans hS5 hbut.size
      generalize hv6 : qrL v5 1 6 11 12 = v6 at *
      have HQ6 := Lib.hid hq
      clear hq hbut hv6 HQ5 HC5 hB5 hS5
      go_wp2_with fail
      refine (quarter_any V cp6 2 7 8 13 v6 Z6 (by omega) (by omega) (by omega) (by omega) HQ6.out).mono ?_
      rintro e Z7 ⟨rfl, hq, hbut⟩
      have HC7 := Lib.hid (show ∀ j, j < 16 → Z7.cell? ⟨F, j, none⟩ = some (.int .u32 (fl.getD j 0)) from fun j hj => (World.cell?_of_block (a := ⟨F, j, none⟩) (hbut.block F (block_lt_of_cell (HC6.out j hj)) (by omega))).trans (HC6.out j hj))
      have hB7 : Below B w Z7 := hB6.trans (hbut.below hBV hS6)
      have hS7 := Nat.le_trans hS6 hbut.size
      generalize hv7 : qrL v6 2 7 8 13 = v7 at *
      have HQ7 := Lib.hid hq
      clear hq hbut hv7 HQ6 HC6 hB6 hS6
      go_wp2_with fail
      refine (quarter_any V cp6 3 4 9 14 v7 Z7 (by omega) (by omega) (by omega) (by omega) HQ7.out).mono ?_
      rintro e Z8 ⟨rfl, hq, hbut⟩
      have HC8 := Lib.hid (show ∀ j, j < 16 → Z8.cell? ⟨F, j, none⟩ = some (.int .u32 (fl.getD j 0)) from fun j hj => (World.cell?_of_block (a := ⟨F, j, none⟩) (hbut.block F (block_lt_of_cell (HC7.out j hj)) (by omega))).trans (HC7.out j hj))
      have hB8 : Below B w Z8 := hB7.trans (hbut.below hBV hS7)
      have hS8 := Nat.le_trans hS7 hbut.size
      generalize hv8 : qrL v7 3 4 9 14 = v8 at *
      have HQ8 := Lib.hid hq
      clear hq hbut hv8 HQ7 HC7 hB7 hS7
      go_wp2_with fail
      go_roundw
      case rel => exact ⟨k + 1, by omega, by go_num, by rw [HR.out]; exact HQ8.out, HC8.out, hB8, hS8⟩
      case measure => simp [intOf]; omega
    · have hdk : decide ((k : Int) < 10) = false := by simp; omega
      obtain rfl : k = 10 := by omega
      generalize roundsL fl 10 = vl at *
      rw [show ((10 : Nat) : Int) = (10 : Int) from rfl]
      obtain ⟨Wx, rfl⟩ : ∃ Wx, Wx = wr := ⟨_, rfl⟩
      generalize hE : Wx.heap.size = E at *
      have HE := Lib.hid hE
      have hVE : V < E := by rw [← hE]; exact HQ0.out.lt
      have hFE : F < E := by omega
      clear hE
      go_wp2_with fail
      go_loopw [11, 12] (fun ov iv wr => ∃ (m : Nat) (ao : Option Addr) (cp : Nat), m ≤ 16 ∧ iv = .int .i64 m ∧ ov = .slice ao (4 * m) cp ∧ Own wr E (.slice ao (4 * m) cp) (Lib.byteCells (outB vl fl m)) ∧ Below E Wx wr ∧ E ≤ wr.heap.size) (fun _ iv _ => 16 - (intOf iv).toNat)
      case atStart => exact ⟨0, none, 0, by omega, rfl, rfl, Own.nil _ _, Below.refl _ _, by rw [HE.out]; omega⟩
      case round =>
        clear hdk
        obtain ⟨m, ao, cp, hm, rfl, rfl, hown, hbE, hszE⟩ := hrel
        have HO := Lib.hid hown
        have HL := Lib.hid (show (Lib.byteCells (outB vl fl m)).length = 4 * m from by rw [Lib.byteCells_length, outB_length])
        clear hown
        by_cases hm16 : m < 16
        · have hdm : decide ((m : Int) < 16) = true := by simp; omega
          have cv := (hbE.cell (p := ⟨V, m, none⟩) hVE).trans (HQ0.out.v m hm16)
          have cf := (hbE.cell (p := ⟨F, m, none⟩) hFE).trans (HC0.out m hm16)
          have HN : Hid (outB vl fl (m + 1) = outB vl fl m ++ leB ((vl.getD m 0 + fl.getD m 0) % 4294967296)) := Lib.hid rfl
          generalize vl.getD m 0 = x at *
          generalize fl.getD m 0 = y at *
          go_wp2_with fail
          go_quiet (fail)
          rename_i nq
          generalize hx : (x + y) % 4294967296 = z at *
          have b0 := wbyte_toNat z 0; have b1 := wbyte_toNat z 8; have b2 := wbyte_toNat z 16; have b3 := wbyte_toNat z 24
          have HBy := Lib.hid (show Lib.byteCells (leB z) = [.int .u8 (z % 256), .int .u8 (z / 256 % 256), .int .u8 (z / 65536 % 256), .int .u8 (z / 16777216 % 256)] from by
            simp only [leB, Lib.byteCells, List.map_cons, List.map_nil, b0, b1, b2, b3]
            simp)
          have hbd : Below E Wx (wr.drewN nq) := below_drewN hbE _
          have hszd : E ≤ (wr.drewN nq).heap.size := hszE
          have HOd := Lib.hid (HO.out.below (below_drewN (Below.refl _ _) nq))
          clear HO hbE hszE cv cf hx b0 b1 b2 b3
          generalize wr.drewN nq = Wd at *
          go_wp2_with (at_builtin; refine wpList_append_sl rfl (.tmp 78) (.tmp 90) 31 rfl E 5 i8 (.int .u8 0) 1 Try.underlying31 hi8 hy0 hy1 hy2 rfl ao (4 * m) cp _ rfl (HOd.out.alloc _) HL.out ⟨Wd.heap.size, 0, none⟩ 4 4 [_, _, _, _] rfl rfl (four_new _ _ _ _ _ _) ?p2 ?p3 ?p4 ?p5 ?_)
          case p2 => intro u hu; simp only [List.mem_cons, List.not_mem_nil, or_false] at hu; rcases hu with rfl | rfl | rfl | rfl <;> rfl
          case p3 => omega
          case p4 => omega
          case p5 => simp; omega
          intro ao7 cp7 W7 hown7 hgrow7
          have hb7 : Below E Wx W7 := below_append (hbd.alloc hszd _) (by simp; omega) (HOd.out.alloc _) hgrow7
          have hsz7 : E ≤ W7.heap.size := by have := hgrow7.size; simp at this; omega
          have hown8 : Own W7 E (.slice ao7 (4 * (m + 1)) cp7) (Lib.byteCells (outB vl fl (m + 1))) := by
            rw [HN.out, Lib.byteCells_append, HBy.out]
            exact hown7
          clear hown7 hgrow7 HOd hbd hszd
          go_wp2_with fail
          go_roundw
          case rel => exact ⟨m + 1, ao7, cp7, by omega, by go_num, rfl, hown8, hb7, hsz7⟩
          case measure => simp [intOf]; omega
        · have hdm : decide ((m : Int) < 16) = false := by simp; omega
          obtain rfl : m = 16 := by omega
          obtain ⟨Ob, cpO, hvv, hoO, _⟩ := HO.out.some (by rw [HL.out]; omega)
          rw [HL.out] at hvv
          cases hvv
          have hcv := run_string_row wr Ob cp (outB vl fl 16) (fun j x hx => hoO.cells j _ (by simp [Lib.byteCells, hx]))
          rw [outB_length] at hcv
          have hBw : Below B w wr := hb.trans (hbE.mono hsz)
          clear hoO HO HL
          go_wp2_with fail
          go_ret2
          exact ⟨by rw [HCB.out]; rfl, by rw [HBB.out]; exact hBw⟩
end Go.Proofs.Ytnjeelfeaiakpaa
