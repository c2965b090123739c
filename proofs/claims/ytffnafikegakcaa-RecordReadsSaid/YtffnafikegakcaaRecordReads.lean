/- RecordReads: which records are read from bytes that come in pieces, call by call: what the program's reader answers to Feed and Next is what the reference's answers. Any list of pieces (40 of them are read, a piece of more than 20000 bytes ends it), any list of bytes; no condition. -/
import Derived.Test.YtffnafikegakcaaRows
import Derived.ProofKit
import Derived.OpenShut
import Derived.Lib.SmallJoins
import Derived.Carry
import Derived.Test.YtffnafikegakcaaRcLists
namespace Go.Proofs.Ytffnafikegakcaa
open Go.ChangeShapes Go.WideShapes Go.ChangeAt Go.WideMaps Go.WideElems Go.RowKit
open Go.ChangeMaps (open_string shut_string)
set_option maxRecDepth 100000
set_option linter.unusedSimpArgs false
set_option linter.unusedVariables false

set_option maxHeartbeats 8000000 in
theorem recordReads_any (w : World) (a0 : Option Addr) (n0 cp0 : Nat) (ss : List ByteArray) (hl0 : ss.length = n0) (hS : StAt w a0 ss) (h0 : n0 ≤ maxLen) (a1 : Option Addr) (n1 cp1 : Nat) (bs : List UInt8) (hl1 : bs.length = n1) (hY : ByAt w a1 bs) (h1 : n1 ≤ maxLen) :
    Calls Try.prog 4 #[.slice a0 n0 cp0, .slice a1 n1 cp1] w fun e w' => e = .returned (.bool true) ∧ Below w.heap.size w w' := by
  have HS := Lib.hid hS; have HY := Lib.hid hY; have HL0 := Lib.hid hl0; have HL1 := Lib.hid hl1
  have hm0 : (n0 : Int) ≤ 9223372036854775807 := by unfold maxLen at h0; omega
  have hm1 : (n1 : Int) ≤ 9223372036854775807 := by unfold maxLen at h1; omega
  clear hS hY hl0 hl1 h0 h1
  go_enter Try.func4, Try.ntmps4
  go_wp2_with fail
  refine (newReader_any w).mono ?_
  rintro e W2 ⟨rfl, hr2, hb2, hlt⟩
  obtain ⟨b, hb⟩ : ∃ b, b = w.heap.size := ⟨_, rfl⟩
  have HI : Hid (∀ o : Obj, o = .cells #[.string ⟨#[]⟩, .int .i64 0] 33 → RInv w (W2.alloc o) w.heap.size W2.heap.size (W2.heap.size + 1) ⟨[], 0⟩ ⟨[], 0⟩) := Lib.hid (fun o ho => by
    subst ho
    exact ⟨(hr2 _).below (below_new W2 _), ⟨⟨#[]⟩, blk_new W2 _, fun _ => rfl⟩, by simp, by simp, hb2.trans ((below_new W2 _).mono hb2.size), by omega, by omega, by omega, Nat.le_refl _, hb2.size, by simp⟩)
  have HB := Lib.hid hb
  clear hr2 hb2 hlt
  rw [← hb]
  clear hb
  go_wp2_with fail
  have HI1 := Lib.hid (HI.out _ rfl)
  rw [← HB.out] at HI1
  clear HI
  generalize (W2.alloc _) = W3 at *
  generalize W2.heap.size = bx at *
  generalize bx + 1 = base at *
  go_loopw [7] (fun iv wr => ∃ (k : Nat) (st : RSt), k ≤ n0 ∧ iv = .int .i64 (k : Int) ∧ RInv w wr b bx base st st) (fun iv _ => n0 - (intOf iv).toNat)
  case atStart => exact ⟨0, _, Nat.zero_le _, rfl, HI1.out⟩
  case round =>
    obtain ⟨k, st, hkn, rfl, hI⟩ := hrel
    have HI := Lib.hid hI
    clear hI HI1
    by_cases hend : k < n0 ∧ k < 40
    case neg =>
      by_cases hlt : k < n0
      · have d1 : decide ((k : Int) < (n0 : Int)) = true := by simp; omega
        have d2 : decide ((k : Int) < 40) = false := by simp; omega
        go_wp2_with fail
        refine (rcawake_any _).mono ?_
        rintro e W4 ⟨rfl, hb4⟩
        go_wp2_with fail
        go_ret
        exact ⟨rfl, HI.out.bel.trans (hb4.mono HI.out.bel.size)⟩
      · have d1 : decide ((k : Int) < (n0 : Int)) = false := by simp; omega
        go_wp2_with fail
        refine (rcawake_any _).mono ?_
        rintro e W4 ⟨rfl, hb4⟩
        go_wp2_with fail
        go_ret
        exact ⟨rfl, HI.out.bel.trans (hb4.mono HI.out.bel.size)⟩
    obtain ⟨hlt, h40⟩ := hend
    have d1 : decide ((k : Int) < (n0 : Int)) = true := by simp; omega
    have d2 : decide ((k : Int) < 40) = true := by simp; omega
    have hltI : (k : Int) < (n0 : Int) := by omega
    obtain ⟨g, off, rfl, hc⟩ := HS.out k (by rw [HL0.out]; exact hlt)
    have HC := Lib.hid hc
    have hcw := cell_since HI.out.bel hc
    clear hc
    generalize ss.getD k emB = d at *
    by_cases hbig : 20000 < d.size
    · have d3 : decide ((20000 : Int) < (d.size : Int)) = true := by simp; omega
      go_wp2_with fail
      refine (rcawake_any _).mono ?_
      rintro e W4 ⟨rfl, hb4⟩
      go_wp2_with fail
      go_ret
      exact ⟨rfl, HI.out.bel.trans (hb4.mono HI.out.bel.size)⟩
    · have d3 : decide ((20000 : Int) < (d.size : Int)) = false := by simp; omega
      have HD : Hid (d.size ≤ 1048576) := Lib.hid (by omega)
      clear hbig
      go_wp2_with fail
      refine wp_region_phase 12 92 5 11 [.val (.pointer (some ⟨b, 0, none⟩)) [(5, .pointer (some ⟨b, 0, none⟩))], .val (.slice (some ⟨g, off, none⟩) n0 cp0) [(0, .slice (some ⟨g, off, none⟩) n0 cp0)], .val (.int .i64 (k : Int)) [(7, .int .i64 (k : Int))], .val (.pointer (some ⟨g, off + k, none⟩)) [(39, .slice (some ⟨g, off, none⟩) n0 cp0), (40, .int .i64 (k : Int))], .val (.string d) [(41, .pointer (some ⟨g, off + k, none⟩))], .val (.int .i64 (feedE st d)) [(38, .pointer (some ⟨b, 0, none⟩)), (42, .string d)], .val (.pointer (some ⟨bx, 0, none⟩)) [(6, .pointer (some ⟨bx, 0, none⟩))], .val (.slice (some ⟨g, off, none⟩) n0 cp0) [(0, .slice (some ⟨g, off, none⟩) n0 cp0)], .val (.int .i64 (k : Int)) [(7, .int .i64 (k : Int))], .val (.pointer (some ⟨g, off + k, none⟩)) [(45, .slice (some ⟨g, off, none⟩) n0 cp0), (46, .int .i64 (k : Int))], .val (.string d) [(47, .pointer (some ⟨g, off + k, none⟩))], .val (.int .i64 (feedE st d)) [(44, .pointer (some ⟨bx, 0, none⟩)), (48, .string d)]]
        (fun x y W => RInv w W b bx base (if x then feedS st d else st) (if y then feedS st d else st)) (by kernel_rfl) (by kernel_rfl) rfl (by decide) (by decide) ?_ ?_ ?_ ?_
      · exact HI.out.step ⟨rfl, rfl, rfl, Nat.le_refl _, fun _ _ => rfl⟩
      · simp only [List.take_succ_cons, List.take_zero, phObl, HeadSpec.val, and_true]
        refine ⟨?_, ?_, ?_, ?_, ?_, ?_, ?_, ?_, ?_, ?_, ?_, ?_⟩
        · intro act w' x y hk hx hy h
          have e0 := h (5, .pointer (some ⟨b, 0, none⟩)) (by simp)
          simp only [Array.getD_eq_getD_getElem?] at e0
          simp [go_sem, e0, phQuiet]
          simpa using hk
        · intro act w' x y hk hx hy h
          have e0 := h (0, .slice (some ⟨g, off, none⟩) n0 cp0) (by simp)
          simp only [Array.getD_eq_getD_getElem?] at e0
          simp [go_sem, e0, phQuiet]
          simpa using hk
        · intro act w' x y hk hx hy h
          have e0 := h (7, .int .i64 (k : Int)) (by simp)
          simp only [Array.getD_eq_getD_getElem?] at e0
          simp [go_sem, e0, phQuiet]
          simpa using hk
        · intro act w' x y hk hx hy h
          have e0 := h (39, .slice (some ⟨g, off, none⟩) n0 cp0) (by simp)
          have e1 := h (40, .int .i64 (k : Int)) (by simp)
          simp only [Array.getD_eq_getD_getElem?] at e0 e1
          simp [go_sem, e0, e1, phQuiet, hlt, hltI]
          simpa using hk
        · intro act w' x y hk hx hy h
          have e0 := h (41, .pointer (some ⟨g, off + k, none⟩)) (by simp)
          simp only [Array.getD_eq_getD_getElem?] at e0
          have hcc := cell_since hk.bel HC.out
          simp [go_sem, e0, phQuiet, hcc]
          simpa using hk
        · intro act w' x y hk hx hy h
          have e0 := h (38, .pointer (some ⟨b, 0, none⟩)) (by simp)
          have e1 := h (42, .string d) (by simp)
          simp only [Array.getD_eq_getD_getElem?] at e0 e1
          obtain rfl := hx trivial
          simp [go_sem, e0, e1, phQuiet]
          refine hk.feed d |>.mono ?_
          rintro e W ⟨rfl, hW⟩
          exact ⟨rfl, by simpa using hW⟩
        · intro act w' x y hk hx hy h
          have e0 := h (6, .pointer (some ⟨bx, 0, none⟩)) (by simp)
          simp only [Array.getD_eq_getD_getElem?] at e0
          simp [go_sem, e0, phQuiet]
          simpa using hk
        · intro act w' x y hk hx hy h
          have e0 := h (0, .slice (some ⟨g, off, none⟩) n0 cp0) (by simp)
          simp only [Array.getD_eq_getD_getElem?] at e0
          simp [go_sem, e0, phQuiet]
          simpa using hk
        · intro act w' x y hk hx hy h
          have e0 := h (7, .int .i64 (k : Int)) (by simp)
          simp only [Array.getD_eq_getD_getElem?] at e0
          simp [go_sem, e0, phQuiet]
          simpa using hk
        · intro act w' x y hk hx hy h
          have e0 := h (45, .slice (some ⟨g, off, none⟩) n0 cp0) (by simp)
          have e1 := h (46, .int .i64 (k : Int)) (by simp)
          simp only [Array.getD_eq_getD_getElem?] at e0 e1
          simp [go_sem, e0, e1, phQuiet, hlt, hltI]
          simpa using hk
        · intro act w' x y hk hx hy h
          have e0 := h (47, .pointer (some ⟨g, off + k, none⟩)) (by simp)
          simp only [Array.getD_eq_getD_getElem?] at e0
          have hcc := cell_since hk.bel HC.out
          simp [go_sem, e0, phQuiet, hcc]
          simpa using hk
        · intro act w' x y hk hx hy h
          have e0 := h (44, .pointer (some ⟨bx, 0, none⟩)) (by simp)
          have e1 := h (48, .string d) (by simp)
          simp only [Array.getD_eq_getD_getElem?] at e0 e1
          obtain rfl := hy trivial
          simp [go_sem, e0, e1, phQuiet]
          refine hk.rfeed d HD.out |>.mono ?_
          rintro e W ⟨rfl, hW⟩
          exact ⟨rfl, by simpa using hW⟩
      · simp [headReads, headPut, specV, HeadSpec.val, Act.put]
      intro W4 hI2
      have HI2 := Lib.hid (show RInv w W4 b bx base (feedS st d) (feedS st d) from hI2)
      clear hI2 HI hcw HC
      simp only [List.take_succ_cons, List.take_zero, List.drop_succ_cons, List.drop_zero, headPut, specV, HeadSpec.val, Act.put, List.setIfInBounds_toArray, List.set_cons_succ, List.set_cons_zero, List.getElem?_cons_succ, List.getElem?_cons_zero, Option.map_some, Option.getD_some]
      generalize feedE st d = fe at *
      generalize feedS st d = st1 at *
      by_cases hk1 : k < n1
      · have d4 : decide ((k : Int) < (n1 : Int)) = true := by simp; omega
        have hk1I : (k : Int) < (n1 : Int) := by omega
        obtain ⟨g1, off1, rfl, hc1⟩ := HY.out k (by rw [HL1.out]; exact hk1)
        have hcw1 := cell_since HI2.out.bel hc1
        clear hc1
        have hbb := (bs.getD k 0).toNat_lt
        generalize (bs.getD k 0).toNat = bv at *
        have x0 : IntKind.i64.wrap (bv : Int) = (bv : Int) := by rw [IntKind.wrap_i64]; omega
        obtain ⟨m, hm⟩ : ∃ m : Nat, (bv : Int).tmod 5 = (m : Int) := ⟨bv % 5, by rw [Int.tmod_eq_emod_of_nonneg (by omega)]; rfl⟩
        have hm5 : m ≤ 1000 := by have := Int.tmod_lt_of_pos (bv : Int) (show (0 : Int) < 5 by decide); omega
        go_wp2_with fail
        go_loopw [9] (fun qv wq => ∃ (q : Nat) (st2 : RSt), q ≤ m ∧ qv = .int .i64 (q : Int) ∧ RInv w wq b bx base st2 st2) (fun qv _ => m - (intOf qv).toNat)
        case atStart => exact ⟨0, _, Nat.zero_le _, rfl, HI2.out⟩
        case round =>
          obtain ⟨q, st2, hqm, rfl, hI3⟩ := hrel
          have HI3 := Lib.hid hI3
          clear hI3 HI2
          by_cases hq : q < m
          · have dq : decide ((q : Int) < (m : Int)) = true := by simp; omega
            go_wp2_with fail
            refine HI3.out.next.mono ?_
            rintro e W1 ⟨rfl, hI4⟩
            have HI4 := Lib.hid hI4
            clear hI4 HI3
            go_wp2_with fail
            refine HI4.out.rnext.mono ?_
            rintro e W2 ⟨rfl, hI5⟩
            have HI5 := Lib.hid hI5
            clear hI5 HI4
            have HX := Lib.hid (show nextS st2 = nextS st2 from rfl)
            generalize nextS st2 = st3 at *
            have ex : ((nextB st2).toList == (nextB st2).toList) = true := by simp
            generalize nextK st2 = x1 at *
            generalize nextB st2 = x2 at *
            generalize nextE st2 = x3 at *
            go_wp2_with fail
            go_roundw
            case rel => exact ⟨q + 1, st3, by omega, by go_num, HI5.out⟩
            case measure => simp [intOf]; omega
          · have dq : decide ((q : Int) < (m : Int)) = false := by simp; omega
            go_wp2_with fail
            go_roundw
            case rel => exact ⟨k + 1, st2, by omega, by go_num, HI3.out⟩
            case measure => simp [intOf]; omega
      · have d4 : decide ((k : Int) < (n1 : Int)) = false := by simp; omega
        go_wp2_with fail
        go_loopw [9] (fun qv wq => ∃ (q : Nat) (st2 : RSt), q ≤ 1 ∧ qv = .int .i64 (q : Int) ∧ RInv w wq b bx base st2 st2) (fun qv _ => 1 - (intOf qv).toNat)
        case atStart => exact ⟨0, _, Nat.zero_le _, rfl, HI2.out⟩
        case round =>
          obtain ⟨q, st2, hqm, rfl, hI3⟩ := hrel
          have HI3 := Lib.hid hI3
          clear hI3 HI2
          by_cases hq : q < 1
          · have dq : decide ((q : Int) < 1) = true := by simp; omega
            go_wp2_with fail
            refine HI3.out.next.mono ?_
            rintro e W1 ⟨rfl, hI4⟩
            have HI4 := Lib.hid hI4
            clear hI4 HI3
            go_wp2_with fail
            refine HI4.out.rnext.mono ?_
            rintro e W2 ⟨rfl, hI5⟩
            have HI5 := Lib.hid hI5
            clear hI5 HI4
            have HX := Lib.hid (show nextS st2 = nextS st2 from rfl)
            generalize nextS st2 = st3 at *
            have ex : ((nextB st2).toList == (nextB st2).toList) = true := by simp
            generalize nextK st2 = x1 at *
            generalize nextB st2 = x2 at *
            generalize nextE st2 = x3 at *
            go_wp2_with fail
            go_roundw
            case rel => exact ⟨q + 1, st3, by omega, by go_num, HI5.out⟩
            case measure => simp [intOf]; omega
          · have dq : decide ((q : Int) < 1) = false := by simp; omega
            go_wp2_with fail
            go_roundw
            case rel => exact ⟨k + 1, st2, by omega, by go_num, HI3.out⟩
            case measure => simp [intOf]; omega

theorem recordReads_laidOut : laidOutB Try.prog = true := by kernel_rfl
theorem recordReads_own : ownKnob Try.prog.godebug = none := by kernel_rfl
theorem recordReads_lifted (os : Os) (started : os.Started) (H : Type) (enc : TypeId × Value → H) :
    ReturnsInHanded {} Try.checked os 4 .any (Rows.recordReadsSpec.pre6 enc Try.prog Try.f4 Rows.recordReadsRow.domain false) (Rows.recordReadsSpec.post enc Try.prog Try.f4 false true false false) := by
  refine returnsInHanded_of_change (C := Try.checked) recordReads_own started (by kernel_rfl) Try.func4
    (ChangeSpec.witness6 (enc := enc) (C := Try.checked) false ⟨#[], #[.slice none 0 0, .slice none 0 0], []⟩ 8 (by kernel_rfl) (by kernel_rfl) (by kernel_rfl) (by kernel_rfl)) ?_
  intro W base args ds gs before hval0 hW hcnd _
  have hval : ∀ (j : Nat) t v, Try.f4.params[j]? = some t → args[j]? = some v → Value.okWide Try.prog W .any base t v := hval0
  have hW' := hW
  obtain ⟨p, q, hA0, hV, rfl, hfz, hnd⟩ := hW
  have hA : DataW.TrodAll enc Try.prog W 0 (fun _ => true) true Try.f4.params.toList args.toList ds p := hA0
  rw [Try.params4] at hA hval
  obtain ⟨v0, v1, d0, d1, p0, p1, rfl, rfl, rfl, h0, h1⟩ := trodAll_two hA
  obtain ⟨rfl, rfl⟩ := trodVars_none hV
  clear hA0 hval0
  simp only [List.append_nil, List.nil_append] at hW'
  obtain ⟨a0, n0, c0, rfl⟩ := okWide_slice Try.underlying27 (hval 0 27 v0 rfl rfl)
  have hk0 := h0
  obtain ⟨l0, hl0, hm0, hI0⟩ := st_open h0
  obtain ⟨a1, n1, c1, rfl⟩ := okWide_slice Try.underlying28 (hval 1 28 v1 rfl rfl)
  have hk1 := h1
  obtain ⟨l1, hl1, hm1, hI1⟩ := by_open h1
  try simp only [List.append_nil, List.nil_append] at hW'
  have hlt0 : ∀ x ∈ p0, x.block < W.heap.size := fun x hx => hW'.lt x (by simp [hx])
  have hlt1 : ∀ x ∈ p1, x.block < W.heap.size := fun x hx => hW'.lt x (by simp [hx])
  refine (recordReads_any W a0 n0 c0 l0 hl0 hI0 hm0 a1 n1 c1 l1 hl1 hI1 hm1).mono fun e W' ⟨he, hb⟩ => ?_
  subst he
  refine ⟨_, rfl, _, _, _, [], p0 ++ p1, [], hW', ?_, ?_, rfl, hb.frame _, fun h => by cases h⟩
  · exact trodAll_mk1 (shut_bool Try.underlying4 _)
  · exact trodAll_mk2 (Below.trod recordReads_laidOut (by kernel_rfl) (of_decide_eq_true (by kernel_rfl)) hk0 hb hlt0) (Below.trod recordReads_laidOut (by kernel_rfl) (of_decide_eq_true (by kernel_rfl)) hk1 hb hlt1)

theorem recordReads_holds : Rows.RecordReadsSaid :=
  OpenClaim.holds_of_wide 4 Try.f4 rfl rfl rfl rfl rfl rfl rfl ⟨rfl, rfl, rfl, rfl, rfl⟩ rfl rfl rfl rfl rfl (by kernel_rfl) Try.func4 (by kernel_rfl)
    (of_decide_eq_true (by kernel_rfl)) (by unfold Func.isWrapper; first | (rw [if_pos (by decide +kernel)]; kernel_rfl) | (rw [if_neg (by decide +kernel)]; exact ⟨rfl, rfl⟩))
    (fun os started H enc _ => recordReads_lifted os started H enc)
#print axioms recordReads_holds
end Go.Proofs.Ytffnafikegakcaa
