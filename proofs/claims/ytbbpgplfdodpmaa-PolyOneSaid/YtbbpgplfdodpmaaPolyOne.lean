/- PolyOne: for every half of 16 bytes, all data of 1 to 16 bytes and any place one changed byte changes the tag under a key whose first half is 1; the chapter's example holds. No condition. -/
import Derived.Test.YtbbpgplfdodpmaaRows
import Derived.ProofKit
import Derived.OpenShut
import Derived.Lib.SmallJoins
import Derived.Test.YtbbpgplfdodpmaaPolyMath
import Derived.Test.YtbbpgplfdodpmaaOwn
namespace Go.Proofs.Ytbbpgplfdodpmaa
open Go.ChangeShapes Go.WideShapes Go.ChangeAt Go.WideMaps Go.WideElems Go.RowKit
open Go.ChangeMaps (open_string shut_string)
set_option maxRecDepth 100000
set_option linter.unusedSimpArgs false
set_option linter.unusedVariables false

theorem place_in (a : Int) (n : Nat) (h : 0 < n) : ∃ j : Nat, j < n ∧ (Int.tmod a n + n).tmod n = (j : Int) := by
  have h1 := Int.tmod_lt_of_pos a (show (0 : Int) < n by omega)
  have h2 : -(n : Int) < Int.tmod a n := by
    have := Int.lt_tmod_of_pos a (show (0 : Int) < n by omega)
    omega
  have h3 : 0 ≤ (Int.tmod a n + n).tmod n := Int.tmod_nonneg _ (by omega)
  have h4 := Int.tmod_lt_of_pos (Int.tmod a n + n) (show (0 : Int) < n by omega)
  exact ⟨((Int.tmod a n + n).tmod n).toNat, by omega, by omega⟩
set_option maxHeartbeats 4000000 in
theorem polyOne_any (k d : ByteArray) (a : Int) (w : World) (_ : k.size ≤ maxLen) (_ : d.size ≤ maxLen) (hw : (Lit.int .i64 a).wf = true) :
    Calls Try.prog 6 #[.string k, .string d, .int .i64 a] w fun e w' => e = .returned (.bool true) ∧ Below w.heap.size w w' := by
  by_cases hk : k.size = 16
  · have hd1 : ((k.size : Int) != 16) = false := by simp [hk]
    by_cases hd0 : d.size < 1
    · have hd2 : decide ((d.size : Int) < 1) = true := by simp; omega
      clear hk hd0
      go_enter Try.func6, Try.ntmps6
      go_wp2_with fail
      refine (pawake_any _).mono ?_
      rintro e W3 ⟨rfl, hb3⟩
      go_wp2_with fail
      go_ret
      exact ⟨rfl, hb3⟩
    · have hd2 : decide ((d.size : Int) < 1) = false := by simp; omega
      by_cases hdd : d.size ≤ 16
      · have hd3 : decide ((16 : Int) < (d.size : Int)) = false := by simp; omega
        obtain ⟨j, hj, hje⟩ := place_in a d.size (by omega)
        have hdl : d.data.toList.length = d.size := (Lib.size_eq d).symm
        have hjl : j < d.data.toList.length := by omega
        obtain ⟨i8, hi8, hy0, hy1, hy2⟩ := info_parts info_u8
        have hmk : ∀ W : World, (Instr.makeSlice 27 (.int .i64 15) (.int .i64 15)).run Try.prog W = .ok (.slice (some ⟨W.heap.size, 0, none⟩) 15 15) (W.alloc (.cells (bcells (List.replicate 15 0)) 5)) := fun W => by
          have h := run_make (P := Try.prog) W 27 5 i8 (.int .u8 0) Try.underlying27 hi8 hy0 .i64 .i64 15 15 (by omega) (by omega) (by rw [hy2]; omega) (by omega)
          rw [hy1, made_zero] at h
          exact h
        have hcv : ∀ W : World, (convert 27 9 (.slice (some ⟨W.heap.size, 0, none⟩) 15 15)).run Try.prog (W.alloc (.cells (bcells (List.replicate 15 0)) 5)) = .ok (.string ⟨(List.replicate 15 (0 : UInt8)).toArray⟩) (W.alloc (.cells (bcells (List.replicate 15 0)) 5)) := fun W => by
          have := run_string_row (W.alloc (.cells (bcells (List.replicate 15 0)) 5)) W.heap.size 15 (List.replicate 15 (0 : UInt8)) (cells_of_bcells (blk_new W _))
          rwa [List.length_replicate] at this
        have zl : (⟨(List.replicate 15 (0 : UInt8)).toArray⟩ : ByteArray).size = 15 := by decide
        have hkey : ((⟨#[1]⟩ : ByteArray) ++ (⟨(List.replicate 15 (0 : UInt8)).toArray⟩ : ByteArray) ++ k).data.toList = 1 :: List.replicate 15 0 ++ k.data.toList := by simp
        have hks : ((⟨#[1]⟩ : ByteArray) ++ (⟨(List.replicate 15 (0 : UInt8)).toArray⟩ : ByteArray) ++ k).size = 32 := by rw [ByteArray.size_append, ByteArray.size_append, zl, hk]; rfl
        have hneq := polyTag_changed k.data.toList d.data.toList j (d.data.toList[j] + 1) hjl (by omega) (succ_ne _)
        have K1 := Lib.hid (fun W => ownTag_any ((⟨#[1]⟩ : ByteArray) ++ (⟨(List.replicate 15 (0 : UInt8)).toArray⟩ : ByteArray) ++ k) d W hks (by omega))
        have K2 := Lib.hid (fun W => ownTag_any ((⟨#[1]⟩ : ByteArray) ++ (⟨(List.replicate 15 (0 : UInt8)).toArray⟩ : ByteArray) ++ k) ⟨(d.data.toList.set j (d.data.toList[j] + 1)).toArray⟩ W hks (by rw [Lib.size_eq]; simp; omega))
        rw [hkey] at K1 K2
        rw [show (⟨(d.data.toList.set j (d.data.toList[j] + 1)).toArray⟩ : ByteArray).data.toList = d.data.toList.set j (d.data.toList[j] + 1) by simp] at K2
        have ex : ((⟨(polyTag (1 :: List.replicate 15 0 ++ k.data.toList) d.data.toList).toArray⟩ : ByteArray).toList == (⟨(polyTag (1 :: List.replicate 15 0 ++ k.data.toList) (d.data.toList.set j (d.data.toList[j] + 1))).toArray⟩ : ByteArray).toList) = false := by
          rw [beq_eq_false_iff_ne]
          intro e
          rw [Lib.toList_data, Lib.toList_data] at e
          exact hneq (by simpa using e)
        generalize (⟨(polyTag (1 :: List.replicate 15 0 ++ k.data.toList) d.data.toList).toArray⟩ : ByteArray) = t1 at *
        generalize (⟨(polyTag (1 :: List.replicate 15 0 ++ k.data.toList) (d.data.toList.set j (d.data.toList[j] + 1))).toArray⟩ : ByteArray) = t2 at *
        generalize (⟨(List.replicate 15 (0 : UInt8)).toArray⟩ : ByteArray) = z at *
        generalize bcells (List.replicate 15 0) = zc at *
        have HMK := Lib.hid hmk
        have hkb : k.size ≤ 16 := by omega
        have hzb : z.size ≤ 16 := by omega
        clear hkey hneq hk zl hd0 hmk
        have hmk := HMK.out w
        have hcvw := hcv w
        have hB0 : Below w.heap.size w (w.alloc (.cells zc 5)) := below_new w _
        obtain ⟨ao0, cap0, hcd, hown0, hbc0⟩ := run_convert_string_bytes_own d (w.alloc (.cells zc 5))
        obtain ⟨G, cG, hvG, hoG, hGlt⟩ := hown0.some (by rw [Lib.byteCells_length, ← Lib.size_eq]; omega)
        have hlG : (Lib.byteCells d.data.toList).length = d.size := by rw [Lib.byteCells_length, hdl]
        rw [hlG] at hvG
        cases hvG
        have hb0 : Below w.heap.size w (Lib.bytesWorld (w.alloc (.cells zc 5)) 5 d) := hB0.trans (hbc0.mono (by simp))
        have HBG := Lib.hid (show w.heap.size < G from by have := hoG.base; simp at this; omega)
        have cx : (Lib.bytesWorld (w.alloc (.cells zc 5)) 5 d).cell? ⟨G, j, none⟩ = some (.int .u8 (d.data.toList[j].toNat : Int)) := hoG.cells j _ (by simp only [Lib.byteCells, List.getElem?_map, List.getElem?_eq_getElem hjl, Option.map_some])
        have fx : (Lib.bytesWorld (w.alloc (.cells zc 5)) 5 d).frozen? ⟨G, j, none⟩ = false := (hoG.room j (by have := hoG.le; rw [hlG] at this; omega)).2
        have hput := hoG.put j (by rw [hlG]; exact hj) (.int .u8 ((((d.data.toList[j]).toNat : Int) + 1) % 256))
        have hinc : ((d.data.toList[j] + 1 : UInt8).toNat : Int) = ((d.data.toList[j]).toNat + 1) % 256 := by rw [UInt8.toNat_add]; simp
        have hsl : (Lib.byteCells d.data.toList).set j (.int .u8 ((((d.data.toList[j]).toNat : Int) + 1) % 256)) = Lib.byteCells (d.data.toList.set j (d.data.toList[j] + 1)) := by
          rw [← hinc]; simp only [Lib.byteCells, List.map_set]
        rw [hsl] at hput
        have hsln : (d.data.toList.set j (d.data.toList[j] + 1)).length = d.size := by rw [List.length_set, hdl]
        have HPUT := Lib.hid hput
        have hbS : Below w.heap.size w ((Lib.bytesWorld (w.alloc (.cells zc 5)) 5 d).setCell ⟨G, j, none⟩ (.int .u8 ((((d.data.toList[j]).toNat : Int) + 1) % 256))) := hb0.setCell (by have := HBG.out; simp; omega) _
        generalize d.data.toList.set j (d.data.toList[j] + 1) = d2 at *
        generalize d.data.toList[j] = x at *
        have HCP := Lib.hid (show 0 < cap0 from by have := hoG.le; rw [hlG] at this; omega)
        clear hput hinc hsl hb0 hdl hjl
        have HO0 := Lib.hid hoG
        have t1b := Int.tmod_lt_of_pos a (show (0 : Int) < (d.size : Int) by omega)
        have t2b := Int.lt_tmod_of_pos a (show (0 : Int) < (d.size : Int) by omega)
        have hwr : wrap64 (a.tmod (d.size : Int) + (d.size : Int)) = a.tmod (d.size : Int) + (d.size : Int) := IntWalk.wrap64_in _ ⟨by omega, by omega⟩
        have hjx : (wrap64 (a.tmod (d.size : Int) + (d.size : Int))).tmod (d.size : Int) = (j : Int) := by rw [hwr]; exact hje
        have hnz : ¬ ((d.size : Int) = 0) := by omega
        clear t1b t2b hje hwr
        clear hown0 hbc0 hB0 hGlt hoG
        go_enter Try.func6, Try.ntmps6
        go_wp2_with fail
        clear cx fx hcd hjx hmk hcvw HMK HO0
        have hsz0 := hbS.size
        generalize (World.setCell _ _ _) = W0 at *
        refine (K1.out W0).mono ?_
        rintro e W1 ⟨rfl, hb1⟩
        have hGw : G < W0.heap.size := HPUT.out.lt HCP.out
        have HO1 := Lib.hid (HPUT.out.keep (hb1.block G hGw))
        have hB1 : Below w.heap.size w W1 := hbS.trans (hb1.mono hsz0)
        have hs1 := hB1.size
        have hcv1 := run_string_row W1 G cap0 d2 (fun i y hy => HO1.out.cells i _ (by simp [Lib.byteCells, hy]))
        rw [hsln] at hcv1
        clear K1 HPUT hb1 hbS hsz0 hGw
        generalize (⟨d2.toArray⟩ : ByteArray) = s2 at *
        go_wp2_with fail
        clear hcv1 HO1
        refine (K2.out W1).mono ?_
        rintro e W2 ⟨rfl, hb2⟩
        have hB2 : Below w.heap.size w W2 := hB1.trans (hb2.mono hs1)
        have hs2 := hB2.size
        clear K2 hb2 hB1 hs1
        go_wp2_with fail
        refine (pawake_any W2).mono ?_
        rintro e W3 ⟨rfl, hb3⟩
        go_wp2_with fail
        go_ret
        exact ⟨rfl, hB2.trans (hb3.mono hs2)⟩
      · have hd3 : decide ((16 : Int) < (d.size : Int)) = true := by simp; omega
        clear hk hd0
        go_enter Try.func6, Try.ntmps6
        go_wp2_with fail
        refine (pawake_any _).mono ?_
        rintro e W3 ⟨rfl, hb3⟩
        go_wp2_with fail
        go_ret
        exact ⟨rfl, hb3⟩
  · have hd1 : ((k.size : Int) != 16) = true := by simp; omega
    clear hk
    go_enter Try.func6, Try.ntmps6
    go_wp2_with fail
    refine (pawake_any _).mono ?_
    rintro e W3 ⟨rfl, hb3⟩
    go_wp2_with fail
    go_ret
    exact ⟨rfl, hb3⟩

theorem polyOne_own : ownKnob Try.prog.godebug = none := by kernel_rfl
theorem polyOne_lifted (os : Os) (started : os.Started) (H : Type) (enc : TypeId × Value → H) :
    ReturnsInHanded {} Try.checked os 6 .any (Rows.polyOneSpec.pre6 enc Try.prog Try.f6 Rows.polyOneRow.domain false) (Rows.polyOneSpec.post enc Try.prog Try.f6 false true false false) := by
  refine returnsInHanded_of_change (C := Try.checked) polyOne_own started (by kernel_rfl) Try.func6
    (ChangeSpec.witness6 (enc := enc) (C := Try.checked) false ⟨#[], #[.string ⟨#[]⟩, .string ⟨#[]⟩, .int .i64 0], []⟩ 8 (by kernel_rfl) (by kernel_rfl) (by kernel_rfl) (by kernel_rfl)) ?_
  intro W base args ds gs before hval0 hW hcnd _
  have hval : ∀ (j : Nat) t v, Try.f6.params[j]? = some t → args[j]? = some v → Value.okWide Try.prog W .any base t v := hval0
  have hW' := hW
  obtain ⟨p, q, hA0, hV, rfl, hfz, hnd⟩ := hW
  have hA : DataW.TrodAll enc Try.prog W 0 (fun _ => true) true Try.f6.params.toList args.toList ds p := hA0
  rw [Try.params6] at hA hval
  obtain ⟨v0, v1, v2, d0, d1, d2, p0, p1, p2, rfl, rfl, rfl, h0, h1, h2⟩ := trodAll_three hA
  obtain ⟨rfl, rfl⟩ := trodVars_none hV
  obtain ⟨s0, rfl, rfl, rfl, w0⟩ := open_string Try.underlying9 (hval 0 9 v0 rfl rfl) h0
  obtain ⟨s1, rfl, rfl, rfl, w1⟩ := open_string Try.underlying9 (hval 1 9 v1 rfl rfl) h1
  obtain ⟨s2, rfl, rfl, rfl, w2⟩ := open_int Try.underlying3 (hval 2 3 v2 rfl rfl) h2
  clear hA0 hval0
  simp only [List.append_nil] at hW'
  refine (polyOne_any s0 s1 s2 W w0 w1 w2).mono fun e W' ⟨he, hb⟩ => ?_
  subst he
  refine ⟨_, rfl, _, _, _, [], [], [], hW', ?_, ?_, rfl, hb.frame _, fun h => by cases h⟩
  · exact trodAll_mk1 (shut_bool Try.underlying4 _)
  · exact trodAll_mk3 (shut_string Try.underlying9 w0) (shut_string Try.underlying9 w1) (shut_int Try.underlying3 w2)

theorem polyOne_holds : Rows.PolyOneSaid :=
  OpenClaim.holds_of_wide 6 Try.f6 rfl rfl rfl rfl rfl rfl rfl ⟨rfl, rfl, rfl, rfl, rfl⟩ rfl rfl rfl rfl rfl (by kernel_rfl) Try.func6 (by kernel_rfl)
    (of_decide_eq_true (by kernel_rfl)) (by unfold Func.isWrapper; first | (rw [if_pos (by decide +kernel)]; kernel_rfl) | (rw [if_neg (by decide +kernel)]; exact ⟨rfl, rfl⟩))
    (fun os started H enc _ => polyOne_lifted os started H enc)
#print axioms polyOne_holds
end Go.Proofs.Ytbbpgplfdodpmaa
