/- RecordSizes: how many bytes a sealed record has, and that a box counts what it seals: any suite, key and iv, any text of at most 2000 bytes, any number of noughts from 0 to 200; the table of squares is as the program's text lays it. -/
import Derived.Test.YtffnafikegakcaaGreatDoorCards
import Derived.Test.YtffnafikegakcaaGreatDoorTie
import Derived.SevenTiedAt
import Derived.Carry
import Derived.Test.YtffnafikegakcaaGreatDoorRbK
namespace Go.Proofs.YtffnafikegakcaaGreatDoor
open Go.ChangeShapes Go.WideShapes Go.ChangeAt Go.WideMaps Go.WideElems Go.RowKit
open Go.ChangeMaps (open_string shut_string)
set_option maxRecDepth 100000
set_option linter.unusedSimpArgs false
set_option linter.unusedVariables false

set_option maxHeartbeats 8000000 in
theorem recordSizes_any (w : World) (su : Int) (ky iv : ByteArray) (wsu : (Lit.int .i64 su).wf = true) (wky : ky.size ≤ maxLen) (wiv : iv.size ≤ maxLen) (text : ByteArray) (wt : text.size ≤ maxLen) (pad : Int) (wp : (Lit.int .i64 pad).wf = true) (hT : TabQ w) :
    Calls Tryz.prog 7 #[.agg #[.int .i64 su, .string ky, .string iv], .string text, .int .i64 pad] w fun e w' => e = .returned (.bool true) ∧ Below w.heap.size w w' := by
  have hb0 := below_new w (.cells (kyC su ky iv) 23)
  have HG0 := Lib.hid (blk_new w (.cells (kyC su ky iv) 23))
  have HT := Lib.hid hT
  rw [show (#[.int .i64 su, .string ky, .string iv] : Array Value) = kyC su ky iv from rfl]
  clear wsu wky wiv wp hT
  by_cases hn : newE su ky iv = 0
  case neg =>
    have CN := Lib.hid (fun W => newBoxBad_any su ky iv W hn)
    have d1 : (newE su ky iv != 0) = true := by rw [bne_iff_ne]; exact hn
    have d2 : (newE su ky iv == 0) = false := by rw [beq_eq_false_iff_ne]; exact hn
    generalize newE su ky iv = er at *
    clear hn
    obtain ⟨c0, c1, c2⟩ := ky_cells HG0.out
    have HB0 := Lib.hid hb0
    clear hb0
    go_enter Tryz.func7, Tryz.ntmps7
    go_wp2_with fail
    generalize (w.alloc _) = W0 at *
    refine (CN.out W0).mono ?_
    rintro e W ⟨rfl, rfl⟩
    clear c0 c1 c2
    go_wp2_with fail
    refine (rcawake_any W0).mono ?_
    rintro e W1 ⟨rfl, hb1⟩
    go_wp2_with fail
    go_ret
    exact ⟨rfl, HB0.out.trans (hb1.mono HB0.out.size)⟩
  have CN := Lib.hid (fun W => newBox_any su ky iv W hn)
  have hok := new_ok su ky iv hn
  clear hn
  by_cases hbad : 2000 < text.size ∨ pad < 0 ∨ 200 < pad
  · by_cases h1 : 2000 < text.size
    · have d1 : decide ((2000 : Int) < (text.size : Int)) = true := decide_eq_true (by omega)
      clear hok hbad
      obtain ⟨c0, c1, c2⟩ := ky_cells HG0.out
      have HB0 := Lib.hid hb0
      clear hb0
      go_enter Tryz.func7, Tryz.ntmps7
      go_wp2_with fail
      generalize (w.alloc _) = W0 at *
      refine (CN.out W0).mono ?_
      rintro e W1 ⟨b, rfl, hlo, hbx, hb1⟩
      have HB1 := Lib.hid (HB0.out.trans (hb1.mono HB0.out.size))
      clear c0 c1 c2 hlo hbx hb1
      go_wp2_with fail
      refine (rcawake_any W1).mono ?_
      rintro e W2 ⟨rfl, hb2⟩
      go_wp2_with fail
      go_ret
      exact ⟨rfl, HB1.out.trans (hb2.mono HB1.out.size)⟩
    have d1 : decide ((2000 : Int) < (text.size : Int)) = false := decide_eq_false (by omega)
    by_cases h2 : pad < 0
    · have d2 : decide (pad < 0) = true := decide_eq_true h2
      clear hok hbad
      obtain ⟨c0, c1, c2⟩ := ky_cells HG0.out
      have HB0 := Lib.hid hb0
      clear hb0
      go_enter Tryz.func7, Tryz.ntmps7
      go_wp2_with fail
      generalize (w.alloc _) = W0 at *
      refine (CN.out W0).mono ?_
      rintro e W1 ⟨b, rfl, hlo, hbx, hb1⟩
      have HB1 := Lib.hid (HB0.out.trans (hb1.mono HB0.out.size))
      clear c0 c1 c2 hlo hbx hb1
      go_wp2_with fail
      refine (rcawake_any W1).mono ?_
      rintro e W2 ⟨rfl, hb2⟩
      go_wp2_with fail
      go_ret
      exact ⟨rfl, HB1.out.trans (hb2.mono HB1.out.size)⟩
    · have d2 : decide (pad < 0) = false := decide_eq_false h2
      have d3 : decide (200 < pad) = true := decide_eq_true (by omega)
      clear hok hbad
      obtain ⟨c0, c1, c2⟩ := ky_cells HG0.out
      have HB0 := Lib.hid hb0
      clear hb0
      go_enter Tryz.func7, Tryz.ntmps7
      go_wp2_with fail
      generalize (w.alloc _) = W0 at *
      refine (CN.out W0).mono ?_
      rintro e W1 ⟨b, rfl, hlo, hbx, hb1⟩
      have HB1 := Lib.hid (HB0.out.trans (hb1.mono HB0.out.size))
      clear c0 c1 c2 hlo hbx hb1
      go_wp2_with fail
      refine (rcawake_any W1).mono ?_
      rintro e W2 ⟨rfl, hb2⟩
      go_wp2_with fail
      go_ret
      exact ⟨rfl, HB1.out.trans (hb2.mono HB1.out.size)⟩
  have d1 : decide ((2000 : Int) < (text.size : Int)) = false := decide_eq_false (by omega)
  have d2 : decide (pad < 0) = false := decide_eq_false (by omega)
  have d3 : decide (200 < pad) = false := decide_eq_false (by omega)
  obtain ⟨p, rfl⟩ : ∃ p : Nat, pad = (p : Int) := ⟨pad.toNat, by omega⟩
  have hpb : p ≤ 200 := by omega
  have htb : text.size ≤ 2000 := by omega
  have HSE : Hid (∀ n, n < 3 → ∀ (b : Nat) W, TabQ W → BxAt W b ⟨su, ky, iv, n⟩ → Calls Tryz.prog 11 #[.pointer (some ⟨b, 0, none⟩), .int .i64 23, .string text, .int .i64 (p : Int)] W fun e W' => ∃ x : ByteArray, e = .returned (.tuple #[.string x, .int .i64 0]) ∧ x.size = text.size + p + 22 ∧ x.data.toList.getD 0 0 = 23 ∧ BxAt W' b ⟨su, ky, iv, n + 1⟩ ∧ But b W W') := Lib.hid (fun n hn3 b W hq hx => by
    have hokn : BOk ⟨su, ky, iv, n⟩ := ⟨hok.su, hok.iv, by show n ≤ 65536; omega⟩
    have he := sel_ok ⟨su, ky, iv, n⟩ 23 text p (by show n < 65536; omega) (by decide) (by omega) (by omega)
    refine (boxSeal_any b ⟨su, ky, iv, n⟩ 23 text p W hx hokn hq wt).mono ?_
    rintro e W' ⟨h1, h2, h3⟩
    rw [selS, if_pos he] at h2
    rw [selA, he] at h1
    exact ⟨_, h1, selX_size _ hokn _ _ _ he, selX_head _ _ _ _ he, h2, h3⟩)
  clear hok hbad wt
  obtain ⟨c0, c1, c2⟩ := ky_cells HG0.out
  have HB0 := Lib.hid hb0
  clear hb0
  go_enter Tryz.func7, Tryz.ntmps7
  go_wp2_with fail
  generalize (w.alloc _) = W0 at *
  refine (CN.out W0).mono ?_
  rintro e W1 ⟨b, rfl, hlo, hbx, hb1⟩
  have HB1 := Lib.hid (HB0.out.trans (hb1.mono HB0.out.size))
  have HLO := Lib.hid (Nat.le_trans HB0.out.size hlo)
  have HBX := Lib.hid hbx
  clear c0 c1 c2 hlo hbx hb1 CN HG0 HB0
  go_wp2_with fail
  go_loopw [9] (fun iv2 wr => ∃ k : Nat, k ≤ 3 ∧ iv2 = .int .i64 (k : Int) ∧ BxAt wr b ⟨su, ky, iv, k⟩ ∧ Below w.heap.size w wr) (fun iv2 _ => 3 - (intOf iv2).toNat)
  case atStart => exact ⟨0, by omega, rfl, HBX.out, HB1.out⟩
  case round =>
    obtain ⟨k, hk3, rfl, hbx, hbw⟩ := hrel
    have HBX2 := Lib.hid hbx
    have HBW := Lib.hid hbw
    clear hbx hbw HBX HB1
    by_cases hlt : k < 3
    · have dk : decide ((k : Int) < 3) = true := decide_eq_true (by omega)
      go_wp2_with fail
      refine (HSE.out k hlt b wr (HT.out.step HBW.out) HBX2.out).mono ?_
      rintro e W2 ⟨x, rfl, hxs, hx0, hbx3, hbut⟩
      have HBX3 := Lib.hid hbx3
      have HBW3 := Lib.hid (HBW.out.trans (hbut.below HLO.out HBW.out.size))
      have CC := Lib.hid (count_any b ⟨su, ky, iv, k + 1⟩ W2 hbx3)
      have hat := at_byte x 0 (by omega)
      rw [hx0, show (((23 : UInt8).toNat : Nat) : Int) = 23 from rfl] at hat
      replace hat : ∀ W, (Instr.index 9 (.string x) (.int .i64 0)).run Tryz.prog W = .ok (.int .u8 23) W := hat
      have hxi : (x.size : Int) = (text.size : Int) + (p : Int) + 22 := by omega
      have hxp : (0 : Int) < (x.size : Int) := by omega
      clear hbx3 hbut HBX2 HBW hx0 hxs
      go_wp2_with fail
      refine CC.out.mono ?_
      rintro e W ⟨rfl, rfl⟩
      go_wp2_with fail
      go_roundw
      case rel => exact ⟨k + 1, by omega, by go_num, HBX3.out, HBW3.out⟩
      case measure => simp [intOf]; omega
    · have dk : decide ((k : Int) < 3) = false := decide_eq_false (by omega)
      go_wp2_with fail
      refine (rcawake_any wr).mono ?_
      rintro e W2 ⟨rfl, hb2⟩
      go_wp2_with fail
      go_ret
      exact ⟨rfl, HBW.out.trans (hb2.mono HBW.out.size)⟩

theorem recordSizes_laidOut : laidOutB Tryz.prog = true := by kernel_rfl
theorem recordSizes_lifted (os : Os) (started : os.Started) (H : Type) (enc : TypeId × Value → H) :
    ReturnsInHanded {} Tryz.checked os 7 .any (fun w args => (Rows.recordSizesSpec.pre enc Tryz.prog Tryz.f7 [] false w args ∧ laidMetH Tryz.prog laid1 w) ∧ sizedMet enc Tryz.prog Tryz.f7 (OpenSpec.ofChange Rows.recordSizesSpec) false w args)
      (Rows.recordSizesSpec.post enc Tryz.prog Tryz.f7 false true false false) := by
  refine returnsInHanded_of_change_and (C := Tryz.checked) (X := fun w _ => laidMetH Tryz.prog laid1 w) (fun _ _ _ hh h => h.of_heap hh) own1 started (by kernel_rfl) Tryz.func7
    (ChangeSpec.witness_shaped (enc := enc) (C := Tryz.checked) (os := os) (X := fun w _ => laidMetH Tryz.prog laid1 w) false (World.doorLaid Tryz.prog 400 os) #[.agg #[.int .i64 0, .string ⟨#[]⟩, .string ⟨#[]⟩], .string ⟨#[]⟩, .int .i64 0] 8 rfl (World.shaped_of_RefB (by kernel_rfl) (by kernel_rfl)) (by kernel_rfl) (by kernel_rfl) (by kernel_rfl) (door_met1 os _)) ?_
  intro W base args ds gs before hval0 hW _ _ hL _
  have hval : ∀ (j : Nat) t v, Tryz.f7.params[j]? = some t → args[j]? = some v → Value.okWide Tryz.prog W .any base t v := hval0
  have hW' := hW
  obtain ⟨p, q, hA0, hV, rfl, hfz, hnd⟩ := hW
  have hA : DataW.TrodAll enc Tryz.prog W 0 (fun _ => true) true Tryz.f7.params.toList args.toList ds p := hA0
  rw [Tryz.params7] at hA hval
  obtain ⟨v0, v1, v2, d0, d1, d2, p0, p1, p2, rfl, rfl, rfl, h0, h1, h2⟩ := trodAll_three hA
  obtain ⟨rfl, rfl⟩ := trodVars_none hV
  have hT := of_laid1 hL
  clear hA0 hval0
  simp only [List.append_nil, List.nil_append] at hW'
  obtain ⟨su, ky, iv, rfl, rfl, rfl, wsu, wky, wiv⟩ := open_keys (hval 0 23 v0 rfl rfl) h0
  obtain ⟨s1, rfl, rfl, rfl, w1⟩ := open_string Tryz.underlying9 (hval 1 9 v1 rfl rfl) h1
  obtain ⟨s2, rfl, rfl, rfl, w2⟩ := open_int Tryz.underlying3 (hval 2 3 v2 rfl rfl) h2
  try simp only [List.append_nil, List.nil_append] at hW'
  refine (recordSizes_any W su ky iv wsu wky wiv s1 w1 s2 w2 hT).mono fun e W' ⟨he, hb⟩ => ?_
  subst he
  refine ⟨_, rfl, _, _, _, [], [], [], hW', ?_, ?_, rfl, hb.frame _, fun h => by cases h⟩
  · exact trodAll_mk1 (shut_bool Tryz.underlying4 _)
  · exact trodAll_mk3 (shut_keys wsu wky wiv) (shut_string Tryz.underlying9 w1) (shut_int Tryz.underlying3 w2)

theorem recordSizes_holds : Rows.RecordSizesSaid :=
  OpenClaim.holds_of_wide 7 Tryz.f7 rfl rfl rfl rfl rfl rfl rfl ⟨rfl, rfl, rfl, rfl, rfl⟩ rfl rfl rfl rfl rfl (by kernel_rfl) Tryz.func7 (by kernel_rfl)
    (of_decide_eq_true (by kernel_rfl)) (by unfold Func.isWrapper; first | (rw [if_pos (by decide +kernel)]; kernel_rfl) | (rw [if_neg (by decide +kernel)]; exact ⟨rfl, rfl⟩))
    (fun os started H enc _ => recordSizes_lifted os started H enc)

theorem recordSizes_card : Rows.RecordSizesCardSaid :=
  Claim7.holds_tied_plain_at .later [] [.data] true (true, "fde69174d6d408d6131d9502f858b52fb59510ff617c3c2862b0d153e04c42c2") false
    recordSizes_holds (fun _ h => by cases h) (by kernel_rfl) (fun _ h => by cases h) recordSizes_row_tie rfl ⟨rfl, rfl⟩ (by kernel_rfl) rfl
    (fun f fn hf hfn => by
      obtain rfl : f = 7 := Option.some.inj ((show Tryz.prog.funcNamed "cresset/cressetlaw15.RecordSizes" = some 7 by kernel_rfl).symm.trans hf) |>.symm
      obtain rfl : fn = Tryz.f7 := (Option.some.inj (Tryz.func7.symm.trans hfn)).symm
      exact ⟨by kernel_rfl, fun j t ht => by
        rw [Tryz.params7] at ht
        have hm : t ∈ [23, 9, 3] := by simpa using Array.mem_of_getElem? ht
        have hall : ([23, 9, 3].all fun u => !Tryz.prog.wantsStandIn u) = true := by kernel_rfl
        exact (show Tryz.prog.wantsStandIn t = false by simpa using List.all_eq_true.1 hall t hm)⟩)
    (by kernel_rfl)
#print axioms recordSizes_card
end Go.Proofs.YtffnafikegakcaaGreatDoor
