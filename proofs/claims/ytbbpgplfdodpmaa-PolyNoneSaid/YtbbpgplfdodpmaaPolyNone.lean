/- PolyNone: for every half of 16 bytes and all data up to 10000 bytes the tag of no bytes, and that under a key whose first half is nought, is the other half; the chapter's example holds. No condition. -/
import Derived.Test.YtbbpgplfdodpmaaRows
import Derived.ProofKit
import Derived.OpenShut
import Derived.Lib.SmallJoins
import Derived.Test.YtbbpgplfdodpmaaPolyMath
namespace Go.Proofs.Ytbbpgplfdodpmaa
open Go.ChangeShapes Go.WideShapes Go.ChangeAt Go.WideMaps Go.WideElems Go.RowKit
open Go.ChangeMaps (open_string shut_string)
set_option maxRecDepth 100000
set_option linter.unusedSimpArgs false
set_option linter.unusedVariables false

set_option maxHeartbeats 2000000 in
theorem polyNone_any (k d : ByteArray) (w : World) (_ : k.size ≤ maxLen) (_ : d.size ≤ maxLen) :
    Calls Try.prog 4 #[.string k, .string d] w fun e w' => e = .returned (.bool true) ∧ Below w.heap.size w w' := by
  by_cases hk : k.size = 16
  · by_cases hdd : d.size ≤ 10000
    · have hd1 : ((k.size : Int) != 16) = false := by simp [hk]
      have hd2 : decide ((10000 : Int) < (d.size : Int)) = false := by simp; omega
      have hkl : k.data.toList.length = 16 := by rw [← Lib.size_eq]; exact hk
      have hks : ⟨k.data.toList.toArray⟩ = k := by apply ByteArray.ext; simp
      have K1 := Lib.hid (show ∀ W, Calls Try.prog 8 #[.string (k ++ k), .string ⟨#[]⟩] W fun e w' => e = .returned (.tuple #[.string k, .int .i64 0]) ∧ Below W.heap.size W w' from fun W => by
        have := ownTag_any (k ++ k) ⟨#[]⟩ W (by rw [ByteArray.size_append]; omega) (by decide)
        rw [show (k ++ k).data.toList = k.data.toList ++ k.data.toList by simp, polyTag_empty _ _ hkl hkl, hks] at this
        exact this)
      have zl : (⟨(List.replicate 16 (0 : UInt8)).toArray⟩ : ByteArray).size = 16 := by decide
      have K2 := Lib.hid (show ∀ W, Calls Try.prog 8 #[.string ((⟨(List.replicate 16 (0 : UInt8)).toArray⟩ : ByteArray) ++ k), .string d] W fun e w' => e = .returned (.tuple #[.string k, .int .i64 0]) ∧ Below W.heap.size W w' from fun W => by
        have := ownTag_any ((⟨(List.replicate 16 (0 : UInt8)).toArray⟩ : ByteArray) ++ k) d W (by rw [ByteArray.size_append, zl]; omega) (by omega)
        rw [show ((⟨(List.replicate 16 (0 : UInt8)).toArray⟩ : ByteArray) ++ k).data.toList = List.replicate 16 0 ++ k.data.toList by simp, polyTag_zero _ _ hkl, hks] at this
        exact this)
      obtain ⟨i8, hi8, hy0, hy1, hy2⟩ := info_parts info_u8
      have hmk : ∀ W : World, (Instr.makeSlice 27 (.int .i64 16) (.int .i64 16)).run Try.prog W = .ok (.slice (some ⟨W.heap.size, 0, none⟩) 16 16) (W.alloc (.cells (bcells (List.replicate 16 0)) 5)) := fun W => by
        have h := run_make (P := Try.prog) W 27 5 i8 (.int .u8 0) Try.underlying27 hi8 hy0 .i64 .i64 16 16 (by omega) (by omega) (by rw [hy2]; omega) (by omega)
        rw [hy1, made_zero] at h
        exact h
      have hcv : ∀ W : World, (convert 27 9 (.slice (some ⟨W.heap.size, 0, none⟩) 16 16)).run Try.prog (W.alloc (.cells (bcells (List.replicate 16 0)) 5)) = .ok (.string ⟨(List.replicate 16 (0 : UInt8)).toArray⟩) (W.alloc (.cells (bcells (List.replicate 16 0)) 5)) := fun W => by
        have := run_string_row (W.alloc (.cells (bcells (List.replicate 16 0)) 5)) W.heap.size 16 (List.replicate 16 (0 : UInt8)) (cells_of_bcells (blk_new W _))
        rwa [List.length_replicate] at this
      have ex : (k.toList == k.toList) = true := by simp
      have hkk : (k.size : Int) = 16 := by omega
      have hkb : k.size ≤ 16 := by omega
      generalize (⟨(List.replicate 16 (0 : UInt8)).toArray⟩ : ByteArray) = z at *
      generalize bcells (List.replicate 16 0) = zc at *
      have hzb : z.size ≤ 16 := by omega
      clear hk hkl hks zl hkk
      go_enter Try.func4, Try.ntmps4
      go_wp2_with fail
      refine (K1.out w).mono ?_
      rintro e W1 ⟨rfl, hb1⟩
      have hsz1 := hb1.size
      have hcv1 := hcv W1
      clear K1 hcv
      go_wp2_with fail
      clear hmk hcv1
      refine (K2.out _).mono ?_
      rintro e W2 ⟨rfl, hb2⟩
      have hB1 : Below w.heap.size w (W1.alloc (.cells zc 5)) := hb1.alloc hsz1 _
      have hB2 : Below w.heap.size w W2 := hB1.trans (hb2.mono hB1.size)
      have hsz2 := hB2.size
      clear K2 hb2 hb1 hB1
      go_wp2_with fail
      refine (pawake_any W2).mono ?_
      rintro e W3 ⟨rfl, hb3⟩
      go_wp2_with fail
      go_ret
      exact ⟨rfl, hB2.trans (hb3.mono hsz2)⟩
    · have hd1 : ((k.size : Int) != 16) = false := by simp [hk]
      have hd2 : decide ((10000 : Int) < (d.size : Int)) = true := by simp; omega
      clear hk hdd
      go_enter Try.func4, Try.ntmps4
      go_wp2_with fail
      refine (pawake_any w).mono ?_
      rintro e W3 ⟨rfl, hb3⟩
      go_wp2_with fail
      go_ret
      exact ⟨rfl, hb3⟩
  · have hd1 : ((k.size : Int) != 16) = true := by simp; omega
    clear hk
    go_enter Try.func4, Try.ntmps4
    go_wp2_with fail
    refine (pawake_any w).mono ?_
    rintro e W3 ⟨rfl, hb3⟩
    go_wp2_with fail
    go_ret
    exact ⟨rfl, hb3⟩

theorem polyNone_own : ownKnob Try.prog.godebug = none := by kernel_rfl
theorem polyNone_lifted (os : Os) (started : os.Started) (H : Type) (enc : TypeId × Value → H) :
    ReturnsInHanded {} Try.checked os 4 .any (Rows.polyNoneSpec.pre6 enc Try.prog Try.f4 Rows.polyNoneRow.domain false) (Rows.polyNoneSpec.post enc Try.prog Try.f4 false true false false) := by
  refine returnsInHanded_of_change (C := Try.checked) polyNone_own started (by kernel_rfl) Try.func4
    (ChangeSpec.witness6 (enc := enc) (C := Try.checked) false ⟨#[], #[.string ⟨#[]⟩, .string ⟨#[]⟩], []⟩ 8 (by kernel_rfl) (by kernel_rfl) (by kernel_rfl) (by kernel_rfl)) ?_
  intro W base args ds gs before hval0 hW hcnd _
  have hval : ∀ (j : Nat) t v, Try.f4.params[j]? = some t → args[j]? = some v → Value.okWide Try.prog W .any base t v := hval0
  have hW' := hW
  obtain ⟨p, q, hA0, hV, rfl, hfz, hnd⟩ := hW
  have hA : DataW.TrodAll enc Try.prog W 0 (fun _ => true) true Try.f4.params.toList args.toList ds p := hA0
  rw [Try.params4] at hA hval
  obtain ⟨v0, v1, d0, d1, p0, p1, rfl, rfl, rfl, h0, h1⟩ := trodAll_two hA
  obtain ⟨rfl, rfl⟩ := trodVars_none hV
  obtain ⟨s0, rfl, rfl, rfl, w0⟩ := open_string Try.underlying9 (hval 0 9 v0 rfl rfl) h0
  obtain ⟨s1, rfl, rfl, rfl, w1⟩ := open_string Try.underlying9 (hval 1 9 v1 rfl rfl) h1
  clear hA0 hval0
  simp only [List.append_nil] at hW'
  refine (polyNone_any s0 s1 W w0 w1).mono fun e W' ⟨he, hb⟩ => ?_
  subst he
  refine ⟨_, rfl, _, _, _, [], [], [], hW', ?_, ?_, rfl, hb.frame _, fun h => by cases h⟩
  · exact trodAll_mk1 (shut_bool Try.underlying4 _)
  · exact trodAll_mk2 (shut_string Try.underlying9 w0) (shut_string Try.underlying9 w1)

theorem polyNone_holds : Rows.PolyNoneSaid :=
  OpenClaim.holds_of_wide 4 Try.f4 rfl rfl rfl rfl rfl rfl rfl ⟨rfl, rfl, rfl, rfl, rfl⟩ rfl rfl rfl rfl rfl (by kernel_rfl) Try.func4 (by kernel_rfl)
    (of_decide_eq_true (by kernel_rfl)) (by unfold Func.isWrapper; first | (rw [if_pos (by decide +kernel)]; kernel_rfl) | (rw [if_neg (by decide +kernel)]; exact ⟨rfl, rfl⟩))
    (fun os started H enc _ => polyNone_lifted os started H enc)
#print axioms polyNone_holds
end Go.Proofs.Ytbbpgplfdodpmaa
