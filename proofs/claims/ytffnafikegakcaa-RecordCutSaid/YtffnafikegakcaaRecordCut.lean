/- RecordCut: however bytes are cut, the same records are read: records of up to ten bodies, of up to 1000 bytes each, one behind the other, fed in pieces of any sizes, are read in their order, and nothing else. Any lists of bodies and of cuts; no condition. -/
import Derived.Test.YtffnafikegakcaaRows
import Derived.ProofKit
import Derived.OpenShut
import Derived.Lib.SmallJoins
import Derived.Carry
import Derived.Test.YtffnafikegakcaaRcCut
namespace Go.Proofs.Ytffnafikegakcaa
open Go.ChangeShapes Go.WideShapes Go.ChangeAt Go.WideMaps Go.WideElems Go.RowKit
open Go.ChangeMaps (open_string shut_string)
set_option maxRecDepth 100000
set_option linter.unusedSimpArgs false
set_option linter.unusedVariables false

set_option maxHeartbeats 16000000 in
theorem recordCut_any (w : World) (a0 : Option Addr) (n0 cp0 : Nat) (ss : List ByteArray) (hl0 : ss.length = n0) (hS : StAt w a0 ss) (h0 : n0 ≤ maxLen) (a1 : Option Addr) (n1 cp1 : Nat) (bs : List UInt8) (hl1 : bs.length = n1) (hY : ByAt w a1 bs) (h1 : n1 ≤ maxLen) :
    Calls Try.prog 5 #[.slice a0 n0 cp0, .slice a1 n1 cp1] w fun e w' => e = .returned (.bool true) ∧ Below w.heap.size w w' := by
  have HS := Lib.hid hS; have HY := Lib.hid hY; have HL0 := Lib.hid hl0; have HL1 := Lib.hid hl1
  have hm0 : (n0 : Int) ≤ 9223372036854775807 := by unfold maxLen at h0; omega
  have hm1 : (n1 : Int) ≤ 9223372036854775807 := by unfold maxLen at h1; omega
  clear hS hY hl0 hl1 h0 h1
  go_enter Try.func5, Try.ntmps5
  go_wp2_with fail
  refine (newReader_any w).mono ?_
  rintro e W2 ⟨rfl, hr2, hb2, hlt⟩
  obtain ⟨b, hb⟩ : ∃ b, b = w.heap.size := ⟨_, rfl⟩
  have HI : Hid (CInv w W2 w.heap.size W2.heap.size ⟨[], 0⟩) := Lib.hid ⟨hr2 _, by simp, hb2, hlt, Nat.le_refl _, Nat.le_refl _⟩
  rw [← hb] at HI ⊢
  generalize W2.heap.size = base at *
  clear hr2 hb2 hlt hb
  by_cases hout : 10 < n0 ∨ n1 = 0
  · by_cases h10 : 10 < n0
    · have d1 : decide ((10 : Int) < (n0 : Int)) = true := by simp; omega
      clear hout
      go_wp2_with fail
      refine (rcawake_any _).mono ?_
      rintro e W4 ⟨rfl, hb4⟩
      go_wp2_with fail
      go_ret
      exact ⟨rfl, HI.out.bel.trans (hb4.mono HI.out.bel.size)⟩
    · have d1 : decide ((10 : Int) < (n0 : Int)) = false := by simp; omega
      have d2 : ((n1 : Int) == 0) = true := by simp; omega
      clear hout
      go_wp2_with fail
      refine (rcawake_any _).mono ?_
      rintro e W4 ⟨rfl, hb4⟩
      go_wp2_with fail
      go_ret
      exact ⟨rfl, HI.out.bel.trans (hb4.mono HI.out.bel.size)⟩
  have h10 : n0 ≤ 10 := by omega
  have hp1 : 0 < n1 := by omega
  have d1 : decide ((10 : Int) < (n0 : Int)) = false := by simp; omega
  have d2 : ((n1 : Int) == 0) = false := by simp; omega
  clear hout
  go_wp2_with fail
  go_loopw [6, 7] (fun av iv wr => ∃ k : Nat, k ≤ n0 ∧ av = .string (allR ss k) ∧ iv = .int .i64 (k : Int) ∧ (allR ss k).size ≤ k * 1005 ∧ (∀ j, j < k → (ss.getD j emB).size ≤ 1000) ∧ CInv w wr b base ⟨[], 0⟩) (fun _ iv _ => n0 - (intOf iv).toNat)
  case atStart => exact ⟨0, Nat.zero_le _, rfl, rfl, by rw [allR_zero]; exact Nat.le_refl _, fun j hj => absurd hj (by omega), HI.out⟩
  case round =>
    obtain ⟨k, hkn, rfl, rfl, hsz, hsm, hI⟩ := hrel
    have HI := Lib.hid hI
    have HM := Lib.hid hsm
    clear hI hsm
    by_cases hlt : k < n0
    · have dl : decide ((k : Int) < (n0 : Int)) = true := by simp; omega
      have hltI : (k : Int) < (n0 : Int) := by omega
      obtain ⟨g, off, rfl, hc⟩ := HS.out k (by rw [HL0.out]; exact hlt)
      have hcw := cell_since HI.out.bel hc
      clear hc
      obtain ⟨d, hd⟩ : ∃ d, d = ss.getD k emB := ⟨_, rfl⟩
      rw [← hd] at hcw
      have HD := Lib.hid hd
      clear hd
      by_cases hbig : 1000 < d.size
      · have d3 : decide ((1000 : Int) < (d.size : Int)) = true := by simp; omega
        generalize allR ss k = all at *
        go_wp2_with fail
        refine (rcawake_any _).mono ?_
        rintro e W4 ⟨rfl, hb4⟩
        go_wp2_with fail
        go_ret
        exact ⟨rfl, HI.out.bel.trans (hb4.mono HI.out.bel.size)⟩
      · have d3 : decide ((1000 : Int) < (d.size : Int)) = false := by simp; omega
        have CF := Lib.hid (fun W => frame_any (20 + ((k % 4 : Nat) : Int)) d W (by omega))
        rw [frO_ok k d (by omega)] at CF
        have HR := Lib.hid (allR_succ ss k (by rw [HL0.out]; exact hlt))
        rw [← HD.out] at HR
        have hfs : (⟨(frL (20 + ((k % 4 : Nat) : Int)) d.data.toList).toArray⟩ : ByteArray).size ≤ 1005 := by
          have : (⟨(frL (20 + ((k % 4 : Nat) : Int)) d.data.toList).toArray⟩ : ByteArray).size = (frL (20 + ((k % 4 : Nat) : Int)) d.data.toList).length := by simp [ByteArray.size]
          rw [this, frL_length, ← Lib.size_eq]; omega
        have hk4 : (k : Int).tmod 4 = ((k % 4 : Nat) : Int) := by rw [Int.tmod_eq_emod_of_nonneg (by omega)]; rfl
        have hkk : 20 + ((k % 4 : Nat) : Int) ≤ 23 := by omega
        have hkl : (0 : Int) ≤ ((k % 4 : Nat) : Int) := by omega
        generalize ((k % 4 : Nat) : Int) = k4 at *
        generalize (⟨(frL (20 + k4) d.data.toList).toArray⟩ : ByteArray) = fr at *
        have hsum : (allR ss k).size + fr.size ≤ 9223372036854775807 := by omega
        have HN : Hid ((allR ss (k + 1)).size ≤ (k + 1) * 1005) := Lib.hid (by rw [← HR.out, ByteArray.size_append]; omega)
        have HM2 : Hid (∀ j, j < k + 1 → (ss.getD j emB).size ≤ 1000) := Lib.hid (fun j hj => by
          by_cases hjk : j < k
          · exact HM.out j hjk
          · obtain rfl : j = k := by omega
            rw [← HD.out]; omega)
        obtain ⟨all, hall⟩ : ∃ all, all = allR ss k := ⟨_, rfl⟩
        rw [← hall] at HR hsum ⊢
        clear hsz hfs hall hbig HM
        go_wp2_with fail
        refine (CF.out _).mono ?_
        rintro e W4 ⟨rfl, hb4⟩
        have HI4 := Lib.hid (HI.out.step hb4)
        clear hb4 HI hcw CF
        go_wp2_with fail
        go_roundw
        case rel => exact ⟨k + 1, by omega, by rw [HR.out], by go_num, HN.out, HM2.out, HI4.out⟩
        case measure => simp [intOf]; omega
    · have dl : decide ((k : Int) < (n0 : Int)) = false := by simp; omega
      obtain rfl : k = n0 := by omega
      have HQ := Lib.hid (cut_start ss (by rw [HL0.out]; exact h10) (fun j hj => HM.out j (by rw [← HL0.out]; exact hj)))
      have HMS : Hid (∀ j, j < ss.length → (ss.getD j emB).size ≤ 1000) := Lib.hid (fun j hj => HM.out j (by rw [← HL0.out]; exact hj))
      rw [HL0.out] at HQ
      generalize allR ss k = all at *
      clear hsz HM
      go_wp2_with fail
      go_loopw [6, 10, 11] (fun av nv iv wr => ∃ (rest : ByteArray) (n i : Nat) (st : RSt), av = .string rest ∧ nv = .int .i64 (n : Int) ∧ iv = .int .i64 (i : Int) ∧ i + rest.size ≤ 20000 ∧ CutQ ss n st rest ∧ nxE st.buf = 33 ∧ CInv w wr b base st) (fun av _ _ _ => strN av)
      case atStart => exact ⟨all, 0, 0, _, rfl, rfl, rfl, by have := HQ.out.len; simpa using this, HQ.out, rfl, HI.out⟩
      case round =>
        obtain ⟨rest, n, i, st, rfl, rfl, rfl, hir, hq, h33, hI⟩ := hrel
        have HI := Lib.hid hI
        have HQ := Lib.hid hq
        have H33 := Lib.hid h33
        clear hI hq h33
        by_cases hr0 : rest.size = 0
        · have dr : decide ((0 : Int) < (rest.size : Int)) = false := decide_eq_false (by omega)
          have hn := cut_end HMS.out HQ.out H33.out hr0
          rw [HL0.out] at hn
          have dn : ((n : Int) == (k : Int)) = true := by simp; omega
          clear hn
          go_wp2_with fail
          refine (rcawake_any _).mono ?_
          rintro e W4 ⟨rfl, hb4⟩
          go_wp2_with fail
          go_ret
          exact ⟨rfl, HI.out.bel.trans (hb4.mono HI.out.bel.size)⟩
        · have dr : decide ((0 : Int) < (rest.size : Int)) = true := decide_eq_true (by omega)
          have him : (i : Int).tmod (n1 : Int) = ((i % n1 : Nat) : Int) := by rw [Int.tmod_eq_emod_of_nonneg (by omega)]; rfl
          have hil : i % n1 < n1 := Nat.mod_lt _ hp1
          obtain ⟨g1, off1, rfl, hc1⟩ := HY.out (i % n1) (by rw [HL1.out]; exact hil)
          have hcw1 := cell_since HI.out.bel hc1
          clear hc1
          have hbb := (bs.getD (i % n1) 0).toNat_lt
          generalize (bs.getD (i % n1) 0).toNat = bv at *
          generalize i % n1 = im at *
          have hilI : (im : Int) < (n1 : Int) := by omega
          have x0 : IntKind.i64.wrap (bv : Int) = (bv : Int) := by rw [IntKind.wrap_i64]; omega
          have hne : ¬ ((n1 : Int) = 0) := by omega
          obtain ⟨kk, hkk⟩ : ∃ kk, kk = min rest.size (max 1 bv) := ⟨_, rfl⟩
          have hmx : min (rest.size : Int) (max 1 (bv : Int)) = (kk : Int) := by omega
          have hk1 : 1 ≤ kk := by omega
          have hk2 : kk ≤ rest.size := by omega
          have hk3 : (kk : Int) ≤ (rest.size : Int) := by omega
          have hq2 := cut_feed HQ.out kk hk2
          have HQ2 := Lib.hid hq2.2
          have CF := Lib.hid (HI.out.feed (rest.extract 0 kk))
          rw [hq2.1] at CF
          have hs2 : (rest.extract kk rest.size).size = rest.size - kk := by rw [Lib.size_eq, ext_from]; simp
          have HSZ : Hid (i + 1 + (rest.extract kk rest.size).size ≤ 20000 ∧ (rest.extract kk rest.size).size < rest.size) := Lib.hid (by rw [hs2]; omega)
          have HRX : Hid (∃ r2, r2 = rest.extract kk rest.size) := Lib.hid ⟨_, rfl⟩
          have hib : i ≤ 20000 := by omega
          have hrb : rest.size ≤ 20000 := by omega
          clear hkk hq2 hs2 hir hil hbb HQ H33
          go_wp2_with fail
          refine CF.out.mono ?_
          rintro e W4 ⟨rfl, hI4⟩
          have HI4 := Lib.hid hI4
          clear hI4 HI CF hcw1
          generalize feedS st (rest.extract 0 kk) = st2 at *
          go_wp2_with fail
          have HLR := Lib.hid HSZ.out.2
          obtain ⟨rs, hrs⟩ : ∃ rs, rs = rest.size := ⟨_, rfl⟩
          rw [← hrs] at HSZ HLR
          have hrsb : rs ≤ 20000 ∧ 0 < rs := by omega
          have HRS := Lib.hid hrs
          rw [← hrs] at HQ2 ⊢
          clear dr hk2 hk3 hmx hr0 hrs hrb
          generalize rest.extract kk rs = r2 at *
          go_loopw [10] (fun nv wq => ∃ (n2 : Nat) (st3 : RSt), nv = .int .i64 (n2 : Int) ∧ CutQ ss n2 st3 r2 ∧ CInv w wq b base st3) (fun nv _ => k - (intOf nv).toNat)
          case atStart => exact ⟨n, st2, rfl, HQ2.out, HI4.out⟩
          case round =>
            obtain ⟨n2, st3, rfl, hq3, hI5⟩ := hrel
            have HI5 := Lib.hid hI5
            have CN := Lib.hid hI5.next
            rcases cut_next HMS.out hq3 with ⟨e1, e2, e3⟩ | ⟨hn2, e1, e2, e3, hq4⟩
            · rw [e1, e2] at CN
              have HQ3 := Lib.hid (And.intro hq3 e3)
              clear e1 e2 e3 hq3 hI5 HQ2 HI4
              generalize nextK st3 = x1 at *
              generalize nextB st3 = x2 at *
              go_wp2_with fail
              refine CN.out.mono ?_
              rintro e W5 ⟨rfl, hI6⟩
              have HI6 := Lib.hid hI6
              clear hI6 HI5 CN
              go_wp2_with fail
              go_roundw
              case rel => exact ⟨r2, n2, i + 1, st3, rfl, rfl, by go_num, HSZ.out.1, HQ3.out.1, HQ3.out.2, HI6.out⟩
              case measure => simp [strN]; rw [← HRS.out]; exact HLR.out
            · rw [e1, e2, e3] at CN
              rw [HL0.out] at hn2
              have HQ3 := Lib.hid hq4
              obtain ⟨g, off, rfl, hc⟩ := HS.out n2 (by rw [HL0.out]; exact hn2)
              have dn : decide ((k : Int) ≤ (n2 : Int)) = false := decide_eq_false (by omega)
              have dn2 : ¬ k ≤ n2 := by omega
              have hn2I : (n2 : Int) < (k : Int) := by omega
              have hk4 : (n2 : Int).tmod 4 = ((n2 % 4 : Nat) : Int) := by rw [Int.tmod_eq_emod_of_nonneg (by omega)]; rfl
              have hkk : 20 + ((n2 % 4 : Nat) : Int) ≤ 23 := by omega
              have hkl : (0 : Int) ≤ ((n2 % 4 : Nat) : Int) := by omega
              have HC := Lib.hid hc
              clear e1 e2 e3 hq3 hq4 hI5 HQ2 HI4 hc
              generalize ((n2 % 4 : Nat) : Int) = k4 at *
              generalize ss.getD n2 emB = d at *
              have ex : (d.toList == d.toList) = true := by simp
              generalize nextS st3 = st4 at *
              go_wp2_with fail
              refine CN.out.mono ?_
              rintro e W5 ⟨rfl, hI6⟩
              have hcw := cell_since hI6.bel HC.out
              have HI6 := Lib.hid hI6
              clear hI6 HI5 CN
              go_wp2_with fail
              go_roundw
              case rel => exact ⟨n2 + 1, st4, by go_num, HQ3.out, HI6.out⟩
              case measure => simp [intOf]; omega

theorem recordCut_laidOut : laidOutB Try.prog = true := by kernel_rfl
theorem recordCut_own : ownKnob Try.prog.godebug = none := by kernel_rfl
theorem recordCut_lifted (os : Os) (started : os.Started) (H : Type) (enc : TypeId × Value → H) :
    ReturnsInHanded {} Try.checked os 5 .any (Rows.recordCutSpec.pre6 enc Try.prog Try.f5 Rows.recordCutRow.domain false) (Rows.recordCutSpec.post enc Try.prog Try.f5 false true false false) := by
  refine returnsInHanded_of_change (C := Try.checked) recordCut_own started (by kernel_rfl) Try.func5
    (ChangeSpec.witness6 (enc := enc) (C := Try.checked) false ⟨#[], #[.slice none 0 0, .slice none 0 0], []⟩ 8 (by kernel_rfl) (by kernel_rfl) (by kernel_rfl) (by kernel_rfl)) ?_
  intro W base args ds gs before hval0 hW hcnd _
  have hval : ∀ (j : Nat) t v, Try.f5.params[j]? = some t → args[j]? = some v → Value.okWide Try.prog W .any base t v := hval0
  have hW' := hW
  obtain ⟨p, q, hA0, hV, rfl, hfz, hnd⟩ := hW
  have hA : DataW.TrodAll enc Try.prog W 0 (fun _ => true) true Try.f5.params.toList args.toList ds p := hA0
  rw [Try.params5] at hA hval
  obtain ⟨v0, v1, d0, d1, p0, p1, rfl, rfl, rfl, h0, h1⟩ := trodAll_two hA
  obtain ⟨rfl, rfl⟩ := trodVars_none hV
  clear hA0 hval0
  simp only [List.append_nil, List.nil_append] at hW'
  obtain ⟨a0, n0, c0, rfl⟩ := okWide_slice Try.underlying27 (hval 0 27 v0 rfl rfl)
  have hk0 := h0
  obtain ⟨l0, hl0, hm0, hI0⟩ := st_open h0
  obtain ⟨a1, n1, c1, rfl⟩ := okWide_slice Try.underlying28 (hval 1 28 v1 rfl rfl)
  have hk1 := h1
  obtain ⟨l1, hl1, hm1, hI1⟩ := by_open h1
  try simp only [List.append_nil, List.nil_append] at hW'
  have hlt0 : ∀ x ∈ p0, x.block < W.heap.size := fun x hx => hW'.lt x (by simp [hx])
  have hlt1 : ∀ x ∈ p1, x.block < W.heap.size := fun x hx => hW'.lt x (by simp [hx])
  refine (recordCut_any W a0 n0 c0 l0 hl0 hI0 hm0 a1 n1 c1 l1 hl1 hI1 hm1).mono fun e W' ⟨he, hb⟩ => ?_
  subst he
  refine ⟨_, rfl, _, _, _, [], p0 ++ p1, [], hW', ?_, ?_, rfl, hb.frame _, fun h => by cases h⟩
  · exact trodAll_mk1 (shut_bool Try.underlying4 _)
  · exact trodAll_mk2 (Below.trod recordCut_laidOut (by kernel_rfl) (of_decide_eq_true (by kernel_rfl)) hk0 hb hlt0) (Below.trod recordCut_laidOut (by kernel_rfl) (of_decide_eq_true (by kernel_rfl)) hk1 hb hlt1)

theorem recordCut_holds : Rows.RecordCutSaid :=
  OpenClaim.holds_of_wide 5 Try.f5 rfl rfl rfl rfl rfl rfl rfl ⟨rfl, rfl, rfl, rfl, rfl⟩ rfl rfl rfl rfl rfl (by kernel_rfl) Try.func5 (by kernel_rfl)
    (of_decide_eq_true (by kernel_rfl)) (by unfold Func.isWrapper; first | (rw [if_pos (by decide +kernel)]; kernel_rfl) | (rw [if_neg (by decide +kernel)]; exact ⟨rfl, rfl⟩))
    (fun os started H enc _ => recordCut_lifted os started H enc)
#print axioms recordCut_holds
end Go.Proofs.Ytffnafikegakcaa
