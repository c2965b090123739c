/- ChachaBack: for every key, nonce, number and text of at most 10000 bytes the program's Xor twice is the text, and the text behind whole blocks is Xor from a later block on; what is refused is refused by the chapter's errors; the chapter's example holds. No condition. -/
import Derived.Test.YtnjeelfeaiakpaaRows
import Derived.ProofKit
import Derived.OpenShut
import Derived.Lib.SmallJoins
import Derived.Test.YtnjeelfeaiakpaaChaWake
import Derived.Test.YtnjeelfeaiakpaaChaSame
import Derived.Test.YtnjeelfeaiakpaaChaMath
namespace Go.Proofs.Ytnjeelfeaiakpaa
open Go.ChangeShapes Go.WideShapes Go.ChangeAt Go.WideMaps Go.WideElems Go.RowKit
open Go.ChangeMaps (open_string shut_string)
set_option maxRecDepth 100000
set_option linter.unusedSimpArgs false
set_option linter.unusedVariables false

theorem str_eq (a b : ByteArray) (h : a.data.toList = b.data.toList) : a = b := ByteArray.ext (Array.toList_inj.1 h)
set_option maxHeartbeats 2000000 in
theorem backErr_any (k n : ByteArray) (i q : Int) (s : ByteArray) (w : World) (hs : s.size ≤ 10000) (hq : q ≠ 0) (h : ∀ W, Calls Try.prog 10 #[.string k, .string n, .int .i64 i, .string s] W fun e w' => e = .returned (.tuple #[.string ⟨#[]⟩, .int .i64 q]) ∧ Below W.heap.size W w')
    (ht : (k.size ≠ 32 ∧ q = 21) ∨ (k.size = 32 ∧ n.size ≠ 12 ∧ q = 21) ∨ (k.size = 32 ∧ n.size = 12 ∧ q ≠ 21)) :
    Calls Try.prog 5 #[.string k, .string n, .agg #[.int .i64 i, .string s]] w fun e w' => e = .returned (.bool true) ∧ Below w.heap.size w w' := by
  have hb0 := below_new w (.cells #[.int .i64 i, .string s] 28)
  have hd0 : decide ((10000 : Int) < (s.size : Int)) = false := by simp; omega
  have hdq : (q != 0) = true := by simpa using hq
  have X1 := Lib.hid h
  clear h hq
  rcases ht with ⟨hk, rfl⟩ | ⟨hk, hn, rfl⟩ | ⟨hk, hn, hq⟩
  · have hd1 : ((k.size : Int) != 32) = true := by simp; omega
    clear hk
    go_enter Try.func5, Try.ntmps5
    go_wp2_with fail
    refine (X1.out _).mono ?_
    rintro e W1 ⟨rfl, hb1⟩
    have hB1 : Below w.heap.size w W1 := hb0.trans (hb1.mono (by simp))
    have hsz1 := hB1.size
    clear hb1 hb0
    go_wp2_with fail
    refine (cawake_any W1).mono ?_
    rintro e W2 ⟨rfl, hb2⟩
    go_wp2_with fail
    go_ret
    exact ⟨rfl, hB1.trans (hb2.mono hsz1)⟩
  · have hd1 : ((k.size : Int) != 32) = false := by simp [hk]
    have hd2 : ((n.size : Int) != 12) = true := by simp; omega
    clear hk hn
    go_enter Try.func5, Try.ntmps5
    go_wp2_with fail
    refine (X1.out _).mono ?_
    rintro e W1 ⟨rfl, hb1⟩
    have hB1 : Below w.heap.size w W1 := hb0.trans (hb1.mono (by simp))
    have hsz1 := hB1.size
    clear hb1 hb0
    go_wp2_with fail
    refine (cawake_any W1).mono ?_
    rintro e W2 ⟨rfl, hb2⟩
    go_wp2_with fail
    go_ret
    exact ⟨rfl, hB1.trans (hb2.mono hsz1)⟩
  · have hd1 : ((k.size : Int) != 32) = false := by simp [hk]
    have hd2 : ((n.size : Int) != 12) = false := by simp [hn]
    have hd3 : (q == 21) = false := by simpa using hq
    clear hk hn hq
    go_enter Try.func5, Try.ntmps5
    go_wp2_with fail
    refine (X1.out _).mono ?_
    rintro e W1 ⟨rfl, hb1⟩
    have hB1 : Below w.heap.size w W1 := hb0.trans (hb1.mono (by simp))
    have hsz1 := hB1.size
    clear hb1 hb0
    go_wp2_with fail
    refine (cawake_any W1).mono ?_
    rintro e W2 ⟨rfl, hb2⟩
    go_wp2_with fail
    go_ret
    exact ⟨rfl, hB1.trans (hb2.mono hsz1)⟩
set_option maxHeartbeats 2000000 in
theorem backOk_any (k n : ByteArray) (j : Nat) (s : ByteArray) (w : World) (hs : s.size ≤ 10000) (hk : k.size = 32) (hn : n.size = 12) (hj : j ≤ 4294967295) (h3 : j + (s.size + 63) / 64 ≤ 4294967296) :
    Calls Try.prog 5 #[.string k, .string n, .agg #[.int .i64 (j : Int), .string s]] w fun e w' => e = .returned (.bool true) ∧ Below w.heap.size w w' := by
  have hb0 := below_new w (.cells #[.int .i64 (j : Int), .string s] 28)
  have hd0 : decide ((10000 : Int) < (s.size : Int)) = false := by simp; omega
  obtain ⟨A, hA⟩ : ∃ A : ByteArray, A = ⟨(chaX k.data.toList n.data.toList j s.data.toList s.size).toArray⟩ := ⟨_, rfl⟩
  have hAs : A.size = s.size := by rw [hA, Lib.size_eq]; simpa using chaX_length _ _ _ _ _
  have X1 := Lib.hid (show ∀ W, Calls Try.prog 10 #[.string k, .string n, .int .i64 (j : Int), .string s] W fun e w' => e = .returned (.tuple #[.string A, .int .i64 0]) ∧ Below W.heap.size W w' from fun W => by
    rw [hA]; exact ownXor_any k n j s W hk hn hj (by omega) h3)
  have X2 := Lib.hid (show ∀ W, Calls Try.prog 10 #[.string k, .string n, .int .i64 (j : Int), .string A] W fun e w' => e = .returned (.tuple #[.string s, .int .i64 0]) ∧ Below W.heap.size W w' from fun W => by
    have := ownXor_any k n j A W hk hn hj (by omega) (by rw [hAs]; exact h3)
    have e : (⟨(chaX k.data.toList n.data.toList j A.data.toList A.size).toArray⟩ : ByteArray) = s := by
      apply str_eq
      rw [hAs, hA]
      simp only [List.toList_toArray, Lib.size_eq]
      exact chaX_twice _ _ _ _
    rwa [e] at this)
  have X3 := Lib.hid (show ∀ t, 64 * t < s.size → ∀ W, Calls Try.prog 10 #[.string k, .string n, .int .i64 ((j : Int) + (t : Int)), .string (s.extract (64 * t) s.size)] W fun e w' => e = .returned (.tuple #[.string (A.extract (64 * t) s.size), .int .i64 0]) ∧ Below W.heap.size W w' from fun t ht W => by
    have hsz : (s.extract (64 * t) s.size).size = s.size - 64 * t := by simp
    have := ownXor_any k n (j + t) (s.extract (64 * t) s.size) W hk hn (by omega) (by omega) (by rw [hsz]; omega)
    have e : (⟨(chaX k.data.toList n.data.toList (j + t) (s.extract (64 * t) s.size).data.toList (s.extract (64 * t) s.size).size).toArray⟩ : ByteArray) = A.extract (64 * t) s.size := by
      apply str_eq
      rw [hsz, hA, Lib.extract_data, Lib.extract_data]
      simp only [List.toList_toArray, Lib.size_eq]
      rw [List.take_of_length_le (by simp), List.take_of_length_le (by simp [chaX_length])]
      exact chaX_later _ _ _ _ _ (by rw [← Lib.size_eq]; omega)
    rw [e] at this
    rwa [Int.natCast_add] at this)
  have HA := Lib.hid hAs
  have es : (s.toList != s.toList) = false := by simp
  have el : ((A.size : Int) != (s.size : Int)) = false := by simp [hAs]
  have HG0 := Lib.hid (blk_new w (.cells #[.int .i64 (j : Int), .string s] 28))
  clear hA hAs hk hn
  go_enter Try.func5, Try.ntmps5
  go_wp2_with fail
  refine (X1.out _).mono ?_
  rintro e W1 ⟨rfl, hb1⟩
  have HG1 := Lib.hid (blk_below hb1 (by simp) HG0.out)
  have hB1 : Below w.heap.size w W1 := hb0.trans (hb1.mono (by simp))
  have hsz1 : w.heap.size < W1.heap.size := blk_lt HG1.out
  have c0 : W1.cell? ⟨w.heap.size, 0, none⟩ = some (.int .i64 (j : Int)) := by rw [cell_of_row W1 _ _ _ _ _ HG1.out]; rfl
  clear X1 HG0 hb1 hb0
  go_wp2_with fail
  clear c0
  refine (X2.out W1).mono ?_
  rintro e W2 ⟨rfl, hb2⟩
  have HG2 := Lib.hid (blk_below hb2 hsz1 HG1.out)
  have hB2 : Below w.heap.size w W2 := hB1.trans (hb2.mono (by omega))
  have hsz2 : w.heap.size < W2.heap.size := blk_lt HG2.out
  have c1 : W2.cell? ⟨w.heap.size, 1, none⟩ = some (.string s) := by rw [cell_of_row W2 _ _ _ _ _ HG2.out]; rfl
  clear X2 hb2 hB1 HG1
  go_wp2_with fail
  clear c1
  have hb2' := hB2
  generalize hBB : w.heap.size = B at *
  have HBB := Lib.hid hBB
  clear hBB hB2
  go_loopw [11] (fun iv wr => ∃ (t a : Nat), Hid (a = 64 * t) ∧ a < s.size + 64 + 64 ∧ iv = .int .i64 (a : Int) ∧ wr.heap[B]? = some (.cells #[.int .i64 (j : Int), .string s] 28) ∧ Below B w wr) (fun iv _ => s.size + 128 - (intOf iv).toNat)
  case atStart => exact ⟨1, 64, Lib.hid (by omega), by omega, rfl, HG2.out, hb2'⟩
  case round =>
    clear HG2 hb2' hsz2
    obtain ⟨t, a, HT, ha, rfl, hg, hb⟩ := hrel
    have HG := Lib.hid hg
    clear hg
    have c0 : wr.cell? ⟨B, 0, none⟩ = some (.int .i64 (j : Int)) := by rw [cell_of_row wr _ _ _ _ _ HG.out]; rfl
    have c1 : wr.cell? ⟨B, 1, none⟩ = some (.string s) := by rw [cell_of_row wr _ _ _ _ _ HG.out]; rfl
    have hBw : B < wr.heap.size := blk_lt HG.out
    by_cases hlt : a < s.size
    · have hd : decide ((a : Int) < (s.size : Int)) = true := by simp; omega
      go_wp2_with fail
      have q0 := cell_regrown c0
      have q1 := cell_regrown c1
      have X := Lib.hid (X3.out t (by have := HT.out; omega))
      have e1 : ((a : Int)).tdiv 64 = (t : Int) := by have := HT.out; rw [Int.tdiv_eq_ediv_of_nonneg (by omega)]; omega
      have e1' : (a : Int) / 64 = (t : Int) := by have := HT.out; omega
      have e2 : IntKind.i64.wrap ((j : Int) + (t : Int)) = (j : Int) + (t : Int) := IntWalk.i64_in _ (by have := HT.out; omega)
      have e3 : IntKind.i64.wrap (t : Int) = (t : Int) := IntWalk.i64_in _ (by have := HT.out; omega)
      rw [← HT.out] at X
      refine wp_region_reads (by kernel_rfl) (by kernel_rfl) ?_
      repeat (first | go_big_quiet_step ((go_at_call 10; exact Calls.regrown_of (X.out _))) | quiet_step ((go_at_call 10; exact Calls.regrown_of (X.out _))))
      refine wpQuiet_nil ?_
      intro W4 hb4
      have HG4 := Lib.hid (blk_below hb4 hBw HG.out)
      have hB4 : Below B w W4 := hb.trans (hb4.mono (by omega))
      have ec : ((A.extract a s.size).toList == (A.extract a A.size).toList) = true := by rw [HA.out]; simp
      have haA : (a : Int) ≤ (A.size : Int) := by rw [HA.out]; omega
      clear q0 q1 c0 c1 hb4 hb e1 e1' e2 e3 X
      go_wp2_with fail
      go_roundw
      case rel => exact ⟨t + 1, a + 64, Lib.hid (by have := HT.out; omega), by omega, by go_num, HG4.out, hB4⟩
      case measure => simp [intOf]; omega
    · have hd : decide ((a : Int) < (s.size : Int)) = false := by simp; omega
      go_wp2_with fail
      refine (cawake_any wr).mono ?_
      rintro e W3 ⟨rfl, hb3⟩
      go_wp2_with fail
      go_ret
      exact ⟨rfl, by rw [HBB.out]; exact hb.trans (hb3.mono (by omega))⟩
set_option maxHeartbeats 2000000 in
theorem chachaBack_any (k n : ByteArray) (i : Int) (s : ByteArray) (w : World) (_ : k.size ≤ maxLen) (_ : n.size ≤ maxLen) (_ : (Lit.int .i64 i).wf = true) (hs : s.size ≤ maxLen) :
    Calls Try.prog 5 #[.string k, .string n, .agg #[.int .i64 i, .string s]] w fun e w' => e = .returned (.bool true) ∧ Below w.heap.size w w' := by
  unfold maxLen at hs
  by_cases h0 : 10000 < s.size
  · have hb0 := below_new w (.cells #[.int .i64 i, .string s] 28)
    have hd0 : decide ((10000 : Int) < (s.size : Int)) = true := by simp; omega
    go_enter Try.func5, Try.ntmps5
    go_wp2_with fail
    refine (cawake_any _).mono ?_
    rintro e W1 ⟨rfl, hb1⟩
    go_wp2_with fail
    go_ret
    exact ⟨rfl, hb0.trans (hb1.mono (by simp))⟩
  by_cases h1 : k.size = 32 ∧ n.size = 12
  · obtain ⟨hk, hn⟩ := h1
    by_cases h2 : 0 ≤ i ∧ i ≤ 4294967295
    · obtain ⟨j, rfl⟩ : ∃ j : Nat, i = (j : Int) := ⟨i.toNat, by omega⟩
      by_cases h3 : j + (s.size + 63) / 64 ≤ 4294967296
      · exact backOk_any k n j s w (by omega) hk hn (by omega) h3
      · exact backErr_any k n j 13 s w (by omega) (by decide) (fun W => ownXorBig_any k n j s W hk hn (by omega) (by omega) (by omega)) (.inr (.inr ⟨hk, hn, by decide⟩))
    · exact backErr_any k n i 1 s w (by omega) (by decide) (fun W => ownXorErr_any k n i 1 s W (by decide) (fun W => checkArg_any k n i W hk hn (by omega))) (.inr (.inr ⟨hk, hn, by decide⟩))
  · exact backErr_any k n i 21 s w (by omega) (by decide) (fun W => ownXorErr_any k n i 21 s W (by decide) (fun W => checkKey_any k n i W (by omega))) (by omega)

theorem chachaBack_own : ownKnob Try.prog.godebug = none := by kernel_rfl
theorem chachaBack_lifted (os : Os) (started : os.Started) (H : Type) (enc : TypeId × Value → H) :
    ReturnsInHanded {} Try.checked os 5 .any (Rows.chachaBackSpec.pre6 enc Try.prog Try.f5 Rows.chachaBackRow.domain false) (Rows.chachaBackSpec.post enc Try.prog Try.f5 false true false false) := by
  refine returnsInHanded_of_change (C := Try.checked) chachaBack_own started (by kernel_rfl) Try.func5
    (ChangeSpec.witness6 (enc := enc) (C := Try.checked) false ⟨#[], #[.string ⟨#[]⟩, .string ⟨#[]⟩, .agg #[.int .i64 0, .string ⟨#[]⟩]], []⟩ 8 (by kernel_rfl) (by kernel_rfl) (by kernel_rfl) (by kernel_rfl)) ?_
  intro W base args ds gs before hval0 hW hcnd _
  have hval : ∀ (j : Nat) t v, Try.f5.params[j]? = some t → args[j]? = some v → Value.okWide Try.prog W .any base t v := hval0
  have hW' := hW
  obtain ⟨p, q, hA0, hV, rfl, hfz, hnd⟩ := hW
  have hA : DataW.TrodAll enc Try.prog W 0 (fun _ => true) true Try.f5.params.toList args.toList ds p := hA0
  rw [Try.params5] at hA hval
  obtain ⟨v0, v1, v2, d0, d1, d2, p0, p1, p2, rfl, rfl, rfl, h0, h1, h2⟩ := trodAll_three hA
  obtain ⟨rfl, rfl⟩ := trodVars_none hV
  obtain ⟨s0, rfl, rfl, rfl, w0⟩ := open_string Try.underlying9 (hval 0 9 v0 rfl rfl) h0
  obtain ⟨s1, rfl, rfl, rfl, w1⟩ := open_string Try.underlying9 (hval 1 9 v1 rfl rfl) h1
  obtain ⟨c0, c1, y0, y1, m, rfl, rfl, rfl, hy0, hy1⟩ := Joins.open_agg2 Try.underlying28 (by kernel_rfl) (by kernel_rfl) (hval 2 28 v2 rfl rfl) h2
  obtain ⟨sn, e0, rfl, wn⟩ := DataW.trod_int Try.underlying3 hy0
  obtain ⟨ss, e1, rfl, ws⟩ := DataW.trod_string Try.underlying9 hy1
  simp at e0 e1
  subst e0 e1
  clear hA0 hval0
  simp only [List.append_nil] at hW'
  refine (chachaBack_any s0 s1 sn ss W w0 w1 wn ws).mono fun e W' ⟨he, hb⟩ => ?_
  subst he
  refine ⟨_, rfl, _, _, _, [], [], [], hW', ?_, ?_, rfl, hb.frame _, fun h => by cases h⟩
  · exact trodAll_mk1 (shut_bool Try.underlying4 _)
  · exact trodAll_mk3 (shut_string Try.underlying9 w0) (shut_string Try.underlying9 w1) (Joins.shut_agg2 (y0 := (.lit (.int .i64 sn), [])) (y1 := (.lit (.string ss.data.toList), [])) Try.underlying28 (by kernel_rfl) (by kernel_rfl) ⟨1, by simp [DataW.trod, Try.underlying3, wn]⟩ ⟨1, by simp [DataW.trod, Try.underlying9, ws]⟩)

theorem chachaBack_holds : Rows.ChachaBackSaid :=
  OpenClaim.holds_of_wide 5 Try.f5 rfl rfl rfl rfl rfl rfl rfl ⟨rfl, rfl, rfl, rfl, rfl⟩ rfl rfl rfl rfl rfl (by kernel_rfl) Try.func5 (by kernel_rfl)
    (of_decide_eq_true (by kernel_rfl)) (by unfold Func.isWrapper; first | (rw [if_pos (by decide +kernel)]; kernel_rfl) | (rw [if_neg (by decide +kernel)]; exact ⟨rfl, rfl⟩))
    (fun os started H enc _ => chachaBack_lifted os started H enc)
#print axioms chachaBack_holds
end Go.Proofs.Ytnjeelfeaiakpaa
