/- ChachaZero: for every key of 32 bytes, nonce of 12 and number from 0 to 1000000 the program's Xor of 128 noughts is its blocks one behind the other; the chapter's example holds. No condition. -/
import Derived.Test.YtnjeelfeaiakpaaRows
import Derived.ProofKit
import Derived.OpenShut
import Derived.Lib.SmallJoins
import Derived.Test.YtnjeelfeaiakpaaChaWake
import Derived.Test.YtnjeelfeaiakpaaChaSame
namespace Go.Proofs.Ytnjeelfeaiakpaa
open Go.ChangeShapes Go.WideShapes Go.ChangeAt Go.WideMaps Go.WideElems Go.RowKit
open Go.ChangeMaps (open_string shut_string)
set_option maxRecDepth 100000
set_option linter.unusedSimpArgs false
set_option linter.unusedVariables false

theorem xorB_zero (m : UInt8) : xorB ((m.toNat : Nat) : Int) 0 = m := by
  have h : ((xorB ((m.toNat : Nat) : Int) 0).toNat : Int) = (m.toNat : Int) := by
    rw [xorB_toNat]
    have := UInt8.toNat_lt m
    generalize m.toNat = a at *
    have e : ∀ a : Nat, a < 256 → bits .xor .u8 (((0 : UInt8).toNat : Nat) : Int) (a : Int) = (a : Int) := by decide +kernel
    exact e a this
  exact UInt8.toNat_inj.1 (by omega)
theorem zero_get (m i : Nat) : (List.replicate m (0 : UInt8)).getD i 0 = 0 := by
  rw [List.getD_eq_getElem?_getD, List.getElem?_replicate]
  split <;> rfl
theorem chaX_first (k n : List UInt8) (c m i : Nat) (h : i ≤ 64) : chaX k n c (List.replicate m 0) i = (chaB k n c).take i := by
  induction i with
  | zero => simp [chaX]
  | succ i ih =>
    rw [chaX, ih (by omega), zero_get, xorB_zero, show i / 64 = 0 by omega, show i % 64 = i by omega, Nat.add_zero]
    have hl : i < (chaB k n c).length := by rw [chaB_length]; omega
    rw [List.take_succ_eq_append_getElem hl, List.getD_eq_getElem?_getD, List.getElem?_eq_getElem hl]
    rfl
theorem chaX_second (k n : List UInt8) (c m i : Nat) (h : i ≤ 64) : chaX k n c (List.replicate m 0) (64 + i) = chaB k n c ++ (chaB k n (c + 1)).take i := by
  induction i with
  | zero => rw [Nat.add_zero, chaX_first _ _ _ _ _ (by omega), List.take_of_length_le (by rw [chaB_length]; omega)]; simp
  | succ i ih =>
    rw [← Nat.add_assoc, chaX, ih (by omega), zero_get, xorB_zero, show (64 + i) / 64 = 1 by omega, show (64 + i) % 64 = i by omega]
    have hl : i < (chaB k n (c + 1)).length := by rw [chaB_length]; omega
    rw [List.take_succ_eq_append_getElem hl, List.getD_eq_getElem?_getD, List.getElem?_eq_getElem hl]
    simp
set_option maxHeartbeats 2000000 in
theorem chachaZero_any (k n : ByteArray) (i : Int) (w : World) (_ : k.size ≤ maxLen) (_ : n.size ≤ maxLen) (_ : (Lit.int .i64 i).wf = true) :
    Calls Try.prog 6 #[.string k, .string n, .int .i64 i] w fun e w' => e = .returned (.bool true) ∧ Below w.heap.size w w' := by
  by_cases h0 : k.size = 32 ∧ n.size = 12 ∧ 0 ≤ i ∧ i ≤ 1000000
  · obtain ⟨hk, hn, hi0, hi1⟩ := h0
    obtain ⟨j, rfl⟩ : ∃ j : Nat, i = (j : Int) := ⟨i.toNat, by omega⟩
    have hd1 : ((k.size : Int) != 32) = false := by simp [hk]
    have hd2 : ((n.size : Int) != 12) = false := by simp [hn]
    have hd3 : decide ((j : Int) < 0) = false := by simp
    have hd4 : decide ((1000000 : Int) < (j : Int)) = false := by simp; omega
    have zl : (⟨(List.replicate 128 (0 : UInt8)).toArray⟩ : ByteArray).size = 128 := by decide
    have e2 := chaX_second k.data.toList n.data.toList j 128 64 (by omega)
    rw [List.take_of_length_le (by rw [chaB_length]; omega)] at e2
    have X1 := Lib.hid (show ∀ W, Calls Try.prog 10 #[.string k, .string n, .int .i64 (j : Int), .string ⟨(List.replicate 128 (0 : UInt8)).toArray⟩] W fun e w' => e = .returned (.tuple #[.string (⟨(chaB k.data.toList n.data.toList j).toArray⟩ ++ ⟨(chaB k.data.toList n.data.toList (j + 1)).toArray⟩), .int .i64 0]) ∧ Below W.heap.size W w' from fun W => by
      have := ownXor_any k n j ⟨(List.replicate 128 (0 : UInt8)).toArray⟩ W hk hn (by omega) (by rw [zl]; omega) (by rw [zl]; omega)
      rw [zl] at this
      simp only [List.toList_toArray] at this
      rw [e2] at this
      refine this.mono ?_
      rintro e w' ⟨rfl, hb⟩
      refine ⟨?_, hb⟩
      have e3 : (⟨(chaB k.data.toList n.data.toList j ++ chaB k.data.toList n.data.toList (j + 1)).toArray⟩ : ByteArray) = ⟨(chaB k.data.toList n.data.toList j).toArray⟩ ++ ⟨(chaB k.data.toList n.data.toList (j + 1)).toArray⟩ := by
        apply ByteArray.ext
        simp
      rw [e3])
    have X2 := Lib.hid (fun W => ownBlock_any k n j W hk hn (by omega))
    have X3 := Lib.hid (fun W => ownBlock_any k n (j + 1) W hk hn (by omega))
    have hb64 : (⟨(chaB k.data.toList n.data.toList j).toArray⟩ : ByteArray).size = 64 := by rw [Lib.size_eq]; simpa using chaB_length _ _ _
    have hc64 : (⟨(chaB k.data.toList n.data.toList (j + 1)).toArray⟩ : ByteArray).size = 64 := by rw [Lib.size_eq]; simpa using chaB_length _ _ _
    generalize (⟨(chaB k.data.toList n.data.toList j).toArray⟩ : ByteArray) = b at *
    generalize (⟨(chaB k.data.toList n.data.toList (j + 1)).toArray⟩ : ByteArray) = c at *
    have eb : ((b.size : Int) == 64) = true := by simp [hb64]
    have hbl : b.size ≤ 64 := by omega
    have hcl : c.size ≤ 64 := by omega
    have ex : ((b ++ c).toList == (b ++ c).toList) = true := by simp
    have hj : j ≤ 1000000 := by omega
    have hcv := Lib.hid (fun W g (h : ∀ j x, (List.replicate 128 (0 : UInt8))[j]? = some x → W.cell? ⟨g, j, none⟩ = some (.int .u8 x.toNat)) => run_string_row W g 128 (List.replicate 128 (0 : UInt8)) h)
    obtain ⟨i8, hi8, hy0, hy1, hy2⟩ := info_parts info_u8
    have hmk : ∀ W : World, (Instr.makeSlice 31 (.int .i64 128) (.int .i64 128)).run Try.prog W = .ok (.slice (some ⟨W.heap.size, 0, none⟩) 128 128) (W.alloc (.cells (bcells (List.replicate 128 0)) 5)) := fun W => by
      have h := run_make (P := Try.prog) W 31 5 i8 (.int .u8 0) Try.underlying31 hi8 hy0 .i64 .i64 128 128 (by omega) (by omega) (by rw [hy2]; omega) (by omega)
      rw [hy1, made_zero] at h
      exact h
    have hcv2 : (convert 31 9 (.slice (some ⟨w.heap.size, 0, none⟩) 128 128)).run Try.prog (w.alloc (.cells (bcells (List.replicate 128 0)) 5)) = .ok (.string ⟨(List.replicate 128 (0 : UInt8)).toArray⟩) (w.alloc (.cells (bcells (List.replicate 128 0)) 5)) := by
      have := hcv.out _ w.heap.size (cells_of_bcells (blk_new w (.cells (bcells (List.replicate 128 0)) 5)))
      rwa [List.length_replicate] at this
    have hb0 := below_new w (.cells (bcells (List.replicate 128 0)) 5)
    generalize (⟨(List.replicate 128 (0 : UInt8)).toArray⟩ : ByteArray) = z at *
    generalize bcells (List.replicate 128 0) = zc at *
    clear hk hn hb64 hc64 e2 hcv
    go_enter Try.func6, Try.ntmps6
    go_wp2_with fail
    clear hmk hcv2
    refine (X1.out _).mono ?_
    rintro e W1 ⟨rfl, hb1⟩
    have hB1 : Below w.heap.size w W1 := hb0.trans (hb1.mono (by simp))
    have hsz1 : w.heap.size ≤ W1.heap.size := hB1.size
    clear hb1 hb0
    go_wp2_with fail
    refine (X2.out W1).mono ?_
    rintro e W2 ⟨rfl, hb2⟩
    have hB2 : Below w.heap.size w W2 := hB1.trans (hb2.mono hsz1)
    have hsz2 : w.heap.size ≤ W2.heap.size := hB2.size
    clear hb2 hB1
    go_wp2_with fail
    refine (X3.out W2).mono ?_
    rintro e W3 ⟨rfl, hb3⟩
    have hB3 : Below w.heap.size w W3 := hB2.trans (hb3.mono hsz2)
    have hsz3 : w.heap.size ≤ W3.heap.size := hB3.size
    clear hb3 hB2
    go_wp2_with fail
    refine (cawake_any W3).mono ?_
    rintro e W4 ⟨rfl, hb4⟩
    go_wp2_with fail
    go_ret
    exact ⟨rfl, hB3.trans (hb4.mono hsz3)⟩
  · have HW := Lib.hid (fun W => cawake_any W)
    by_cases hk : k.size = 32
    · have hd1 : ((k.size : Int) != 32) = false := by simp [hk]
      by_cases hn : n.size = 12
      · have hd2 : ((n.size : Int) != 12) = false := by simp [hn]
        by_cases hi : i < 0
        · have hd3 : decide (i < 0) = true := by simp; omega
          clear h0 hk hn hi
          go_enter Try.func6, Try.ntmps6
          go_wp2_with fail
          refine (HW.out w).mono ?_
          rintro e W1 ⟨rfl, hb1⟩
          go_wp2_with fail
          go_ret
          exact ⟨rfl, hb1⟩
        · have hd3 : decide (i < 0) = false := by simp; omega
          have hd4 : decide ((1000000 : Int) < i) = true := by simp; omega
          clear h0 hk hn hi
          go_enter Try.func6, Try.ntmps6
          go_wp2_with fail
          refine (HW.out w).mono ?_
          rintro e W1 ⟨rfl, hb1⟩
          go_wp2_with fail
          go_ret
          exact ⟨rfl, hb1⟩
      · have hd2 : ((n.size : Int) != 12) = true := by simp; omega
        clear h0 hk hn
        go_enter Try.func6, Try.ntmps6
        go_wp2_with fail
        refine (HW.out w).mono ?_
        rintro e W1 ⟨rfl, hb1⟩
        go_wp2_with fail
        go_ret
        exact ⟨rfl, hb1⟩
    · have hd1 : ((k.size : Int) != 32) = true := by simp; omega
      clear h0 hk
      go_enter Try.func6, Try.ntmps6
      go_wp2_with fail
      refine (HW.out w).mono ?_
      rintro e W1 ⟨rfl, hb1⟩
      go_wp2_with fail
      go_ret
      exact ⟨rfl, hb1⟩

theorem chachaZero_own : ownKnob Try.prog.godebug = none := by kernel_rfl
theorem chachaZero_lifted (os : Os) (started : os.Started) (H : Type) (enc : TypeId × Value → H) :
    ReturnsInHanded {} Try.checked os 6 .any (Rows.chachaZeroSpec.pre6 enc Try.prog Try.f6 Rows.chachaZeroRow.domain false) (Rows.chachaZeroSpec.post enc Try.prog Try.f6 false true false false) := by
  refine returnsInHanded_of_change (C := Try.checked) chachaZero_own started (by kernel_rfl) Try.func6
    (ChangeSpec.witness6 (enc := enc) (C := Try.checked) false ⟨#[], #[.string ⟨#[]⟩, .string ⟨#[]⟩, .int .i64 0], []⟩ 8 (by kernel_rfl) (by kernel_rfl) (by kernel_rfl) (by kernel_rfl)) ?_
  intro W base args ds gs before hval0 hW hcnd _
  have hval : ∀ (j : Nat) t v, Try.f6.params[j]? = some t → args[j]? = some v → Value.okWide Try.prog W .any base t v := hval0
  have hW' := hW
  obtain ⟨p, q, hA0, hV, rfl, hfz, hnd⟩ := hW
  have hA : DataW.TrodAll enc Try.prog W 0 (fun _ => true) true Try.f6.params.toList args.toList ds p := hA0
  rw [Try.params6] at hA hval
  obtain ⟨v0, v1, v2, d0, d1, d2, p0, p1, p2, rfl, rfl, rfl, h0, h1, h2⟩ := trodAll_three hA
  obtain ⟨rfl, rfl⟩ := trodVars_none hV
  obtain ⟨s0, rfl, rfl, rfl, w0⟩ := open_string Try.underlying9 (hval 0 9 v0 rfl rfl) h0
  obtain ⟨s1, rfl, rfl, rfl, w1⟩ := open_string Try.underlying9 (hval 1 9 v1 rfl rfl) h1
  obtain ⟨s2, rfl, rfl, rfl, w2⟩ := open_int Try.underlying3 (hval 2 3 v2 rfl rfl) h2
  clear hA0 hval0
  simp only [List.append_nil] at hW'
  refine (chachaZero_any s0 s1 s2 W w0 w1 w2).mono fun e W' ⟨he, hb⟩ => ?_
  subst he
  refine ⟨_, rfl, _, _, _, [], [], [], hW', ?_, ?_, rfl, hb.frame _, fun h => by cases h⟩
  · exact trodAll_mk1 (shut_bool Try.underlying4 _)
  · exact trodAll_mk3 (shut_string Try.underlying9 w0) (shut_string Try.underlying9 w1) (shut_int Try.underlying3 w2)

theorem chachaZero_holds : Rows.ChachaZeroSaid :=
  OpenClaim.holds_of_wide 6 Try.f6 rfl rfl rfl rfl rfl rfl rfl ⟨rfl, rfl, rfl, rfl, rfl⟩ rfl rfl rfl rfl rfl (by kernel_rfl) Try.func6 (by kernel_rfl)
    (of_decide_eq_true (by kernel_rfl)) (by unfold Func.isWrapper; first | (rw [if_pos (by decide +kernel)]; kernel_rfl) | (rw [if_neg (by decide +kernel)]; exact ⟨rfl, rfl⟩))
    (fun os started H enc _ => chachaZero_lifted os started H enc)
#print axioms chachaZero_holds
end Go.Proofs.Ytnjeelfeaiakpaa
