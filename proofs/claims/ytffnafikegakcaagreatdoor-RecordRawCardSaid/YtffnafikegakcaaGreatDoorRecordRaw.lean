/- RecordRaw: what a box opens of anything that was sealed under its key: what the program's Open answers is what the reference's answers, and so is the count. Any suite, key and iv, any bytes that were sealed (of more than 17000 only the chapter's examples); the tables are as their texts lay them. -/
import Derived.Test.YtffnafikegakcaaGreatDoorCards
import Derived.Test.YtffnafikegakcaaGreatDoorTie
import Derived.SevenTiedAt
import Derived.Carry
import Derived.Test.YtffnafikegakcaaGreatDoorRbKR
namespace Go.Proofs.YtffnafikegakcaaGreatDoor
open Go.ChangeShapes Go.WideShapes Go.ChangeAt Go.WideMaps Go.WideElems Go.RowKit
open Go.ChangeMaps (open_string shut_string)
set_option maxRecDepth 100000
set_option linter.unusedSimpArgs false
set_option linter.unusedVariables false

set_option maxHeartbeats 8000000 in
theorem recordRaw_any (w : World) (su : Int) (ky iv : ByteArray) (wsu : (Lit.int .i64 su).wf = true) (wky : ky.size ≤ maxLen) (wiv : iv.size ≤ maxLen) (inner : ByteArray) (wt : inner.size ≤ maxLen) (hT : TabQ w) :
    Calls Tryz.prog 4 #[.agg #[.int .i64 su, .string ky, .string iv], .string inner] w fun e w' => e = .returned (.bool true) ∧ Below w.heap.size w w' := by
  have HB0 := Lib.hid (below_new w (.cells (kyC su ky iv) 23))
  have HG0 := Lib.hid (blk_new w (.cells (kyC su ky iv) 23))
  obtain ⟨c0, c1, c2⟩ := ky_cells HG0.out
  have HT := Lib.hid hT
  rw [show (#[.int .i64 su, .string ky, .string iv] : Array Value) = kyC su ky iv from rfl]
  clear wsu wky wiv hT
  by_cases hbig : 17000 < inner.size
  · have d1 : decide ((17000 : Int) < (inner.size : Int)) = true := decide_eq_true (by omega)
    clear hbig wt
    go_enter Tryz.func4, Tryz.ntmps4
    go_wp2_with fail
    refine (rcawake_any _).mono ?_
    rintro e W1 ⟨rfl, hb1⟩
    go_wp2_with fail
    go_ret
    exact ⟨rfl, HB0.out.trans (hb1.mono HB0.out.size)⟩
  have d1 : decide ((17000 : Int) < (inner.size : Int)) = false := decide_eq_false (by omega)
  by_cases hn : newE su ky iv = 0
  case neg =>
    have CN := Lib.hid (fun W => newBoxBad_any su ky iv W hn)
    have CR := Lib.hid (fun W => rnewBoxBad_any su ky iv W hn)
    have d2 : (newE su ky iv != 0) = true := by rw [bne_iff_ne]; exact hn
    generalize newE su ky iv = er at *
    clear hn hbig wt
    go_enter Tryz.func4, Tryz.ntmps4
    go_wp2_with fail
    refine (CN.out _).mono ?_
    rintro e W ⟨rfl, rfl⟩
    go_wp2_with fail
    refine (CR.out _).mono ?_
    rintro e W ⟨rfl, rfl⟩
    go_wp2_with fail
    refine (rcawake_any _).mono ?_
    rintro e W1 ⟨rfl, hb1⟩
    go_wp2_with fail
    go_ret
    exact ⟨rfl, HB0.out.trans (hb1.mono HB0.out.size)⟩
  have CN := Lib.hid (fun W => newBox_any su ky iv W hn)
  have CR := Lib.hid (fun W => rnewBox_any su ky iv W hn)
  have hok := new_ok su ky iv hn
  have HOK := Lib.hid hok
  obtain ⟨n, hnn⟩ : ∃ n, n = inner.size + 16 := ⟨_, rfl⟩
  have hni : (inner.size : Int) + 16 = (n : Int) := by omega
  have hnb : n ≤ 17016 := by omega
  have hhs := headB_size 23 n
  obtain ⟨x, hx1, hx2⟩ := seal_fine ⟨su, ky, iv, 0⟩ hok (headB 23 n) inner
  have CS := Lib.hid (fun W => rsealO_any su ky iv (headB 23 n) inner W (by omega) (by omega))
  rw [show sealO su ky iv (headB 23 n) inner = (x, 0) from hx1] at CS
  unfold ansO at CS
  have HXM : Hid (x.size ≤ maxLen) := Lib.hid (by unfold maxLen; omega)
  have HHD := Lib.hid (fun W => head23_text n W)
  have e1 : (n : Int) / 256 % 256 = ((wbyte (n : Int) 8).toNat : Int) := by rw [wbyte_toNat]; rfl
  have e1' : IntKind.u8.wrap ((n : Int) / 256) = ((wbyte (n : Int) 8).toNat : Int) := by rw [IntKind.wrap_u8, wbyte_toNat]; rfl
  have e2 : IntKind.u8.wrap (n : Int) = ((wbyte (n : Int) 0).toNat : Int) := by rw [IntKind.wrap_u8, wbyte_toNat]; simp
  generalize headB 23 n = hd at *
  clear hbig hn hok hnn hhs hx1 hx2
  go_enter Tryz.func4, Tryz.ntmps4
  go_wp2_with fail
  generalize (w.alloc _) = W0 at *
  refine (CN.out W0).mono ?_
  rintro e W1 ⟨ba, rfl, hloa, hba, hb1⟩
  have HG1 := Lib.hid (blk_below hb1 (blk_lt HG0.out) HG0.out)
  have HB1 := Lib.hid (HB0.out.trans (hb1.mono HB0.out.size))
  have HA1 := Lib.hid hba
  have HLA := Lib.hid (Nat.le_trans HB0.out.size hloa)
  clear c0 c1 c2 hloa hba hb1 CN HG0 HB0
  obtain ⟨c0, c1, c2⟩ := ky_cells HG1.out
  go_wp2_with fail
  refine (CR.out W1).mono ?_
  rintro e W2 ⟨bc, rfl, hloc, hbc, hb2⟩
  have HG2 := Lib.hid (blk_below hb2 (blk_lt HG1.out) HG1.out)
  have HB2 := Lib.hid (HB1.out.trans (hb2.mono HB1.out.size))
  have HA2 := Lib.hid (HA1.out.below hb2)
  have HC2 := Lib.hid hbc
  have HLC := Lib.hid (Nat.le_trans HB1.out.size hloc)
  have HNE : Hid (ba ≠ bc) := Lib.hid (by have := blk_lt HA1.out; omega)
  clear c0 c1 c2 hloc hbc hb2 CR HG1 HB1 HA1
  obtain ⟨c0, c1, c2⟩ := ky_cells HG2.out
  have hcv := HHD.out W2
  go_wp2_with fail
  refine (CS.out _).mono ?_
  rintro e W3 ⟨rfl, hb3⟩
  have hb3' := (below_new W2 _).trans (hb3.mono (by simp))
  have HB3 := Lib.hid (HB2.out.trans (hb3'.mono HB2.out.size))
  have HA3 := Lib.hid (HA2.out.below hb3')
  have HC3 := Lib.hid (HC2.out.below hb3')
  clear c0 c1 c2 hb3 hb3' hcv HHD HG2 HB2 HA2 HC2 CS e1 e1' e2
  have CO := Lib.hid (boxOpen_any ba ⟨su, ky, iv, 0⟩ x W3 HA3.out HOK.out (HT.out.step HB3.out) HXM.out)
  have CRO := Lib.hid (fun W (hx : BrAt W bc ⟨su, ky, iv, 0⟩) => rboxOpen_any bc ⟨su, ky, iv, 0⟩ x W hx HOK.out HXM.out)
  unfold opnA at CO CRO
  generalize opnK ⟨su, ky, iv, 0⟩ x = x1 at *
  generalize opnB ⟨su, ky, iv, 0⟩ x = x2 at *
  generalize opnE ⟨su, ky, iv, 0⟩ x = x3 at *
  generalize opnS ⟨su, ky, iv, 0⟩ x = st at *
  have ex : (x2.toList == x2.toList) = true := by simp
  go_wp2_with fail
  refine CO.out.mono ?_
  rintro e W4 ⟨rfl, ha4, hbt4⟩
  have HA4 := Lib.hid ha4
  have HC4 : Hid (BrAt W4 bc ⟨su, ky, iv, 0⟩) := Lib.hid ((hbt4.block bc (blk_lt HC3.out) HNE.out.symm).trans HC3.out)
  have HB4 := Lib.hid (HB3.out.trans (hbt4.below HLA.out HB3.out.size))
  clear ha4 hbt4 HA3 HC3 HB3 CO
  go_wp2_with fail
  refine (CRO.out W4 HC4.out).mono ?_
  rintro e W5 ⟨rfl, hc5, hbt5⟩
  have HC5 := Lib.hid hc5
  have HA5 : Hid (BxAt W5 ba st) := Lib.hid ((hbt5.block ba (blk_lt HA4.out) HNE.out).trans HA4.out)
  have HB5 := Lib.hid (HB4.out.trans (hbt5.below HLC.out HB4.out.size))
  clear hc5 hbt5 HA4 HC4 HB4 CRO
  obtain ⟨c0, c1, c2, c3, f3⟩ := br_cells HC5.out
  have k3 := cell_regrown c3
  go_wp2_with fail
  refine wp_region_reads (by kernel_rfl) (by kernel_rfl) ?_
  repeat (first | go_big_quiet_step (first | with_reducible exact Calls.regrown_of (below_eq (count_any ba st _ (HA5.out.below (below_regrown _ _ _)))) | with_reducible exact Calls.regrown_of (rcawake_any _)) | quiet_step (first | with_reducible exact Calls.regrown_of (below_eq (count_any ba st _ (HA5.out.below (below_regrown _ _ _)))) | with_reducible exact Calls.regrown_of (rcawake_any _)))
  refine wpQuiet_nil ?_
  intro W6 hb6
  go_wp2_with fail
  go_ret
  exact ⟨rfl, HB5.out.trans (hb6.mono HB5.out.size)⟩

theorem recordRaw_laidOut : laidOutB Tryz.prog = true := by kernel_rfl
theorem recordRaw_lifted (os : Os) (started : os.Started) (H : Type) (enc : TypeId × Value → H) :
    ReturnsInHanded {} Tryz.checked os 4 .any (fun w args => (Rows.recordRawSpec.pre enc Tryz.prog Tryz.f4 [] false w args ∧ laidMetH Tryz.prog laid3 w) ∧ sizedMet enc Tryz.prog Tryz.f4 (OpenSpec.ofChange Rows.recordRawSpec) false w args)
      (Rows.recordRawSpec.post enc Tryz.prog Tryz.f4 false true false false) := by
  refine returnsInHanded_of_change_and (C := Tryz.checked) (X := fun w _ => laidMetH Tryz.prog laid3 w) (fun _ _ _ hh h => h.of_heap hh) own3 started (by kernel_rfl) Tryz.func4
    (ChangeSpec.witness_shaped (enc := enc) (C := Tryz.checked) (os := os) (X := fun w _ => laidMetH Tryz.prog laid3 w) false (World.laidAll Tryz.prog os laid3) #[.agg #[.int .i64 0, .string ⟨#[]⟩, .string ⟨#[]⟩], .string ⟨#[]⟩] 8 (World.laidAll_os _ _ _) (World.shaped_of_ZipB (by kernel_rfl) (by kernel_rfl)) (by kernel_rfl) (by kernel_rfl) (by kernel_rfl) (door_met3 os _)) ?_
  intro W base args ds gs before hval0 hW _ _ hL _
  have hval : ∀ (j : Nat) t v, Tryz.f4.params[j]? = some t → args[j]? = some v → Value.okWide Tryz.prog W .any base t v := hval0
  have hW' := hW
  obtain ⟨p, q, hA0, hV, rfl, hfz, hnd⟩ := hW
  have hA : DataW.TrodAll enc Tryz.prog W 0 (fun _ => true) true Tryz.f4.params.toList args.toList ds p := hA0
  rw [Tryz.params4] at hA hval
  obtain ⟨v0, v1, d0, d1, p0, p1, rfl, rfl, rfl, h0, h1⟩ := trodAll_two hA
  obtain ⟨rfl, rfl⟩ := trodVars_none hV
  have hT := of_laid3 hL
  clear hA0 hval0
  simp only [List.append_nil, List.nil_append] at hW'
  obtain ⟨su, ky, iv, rfl, rfl, rfl, wsu, wky, wiv⟩ := open_keys (hval 0 23 v0 rfl rfl) h0
  obtain ⟨s1, rfl, rfl, rfl, w1⟩ := open_string Tryz.underlying9 (hval 1 9 v1 rfl rfl) h1
  try simp only [List.append_nil, List.nil_append] at hW'
  refine (recordRaw_any W su ky iv wsu wky wiv s1 w1 hT).mono fun e W' ⟨he, hb⟩ => ?_
  subst he
  refine ⟨_, rfl, _, _, _, [], [], [], hW', ?_, ?_, rfl, hb.frame _, fun h => by cases h⟩
  · exact trodAll_mk1 (shut_bool Tryz.underlying4 _)
  · exact trodAll_mk2 (shut_keys wsu wky wiv) (shut_string Tryz.underlying9 w1)

theorem recordRaw_holds : Rows.RecordRawSaid :=
  OpenClaim.holds_of_wide 4 Tryz.f4 rfl rfl rfl rfl rfl rfl rfl ⟨rfl, rfl, rfl, rfl, rfl⟩ rfl rfl rfl rfl rfl (by kernel_rfl) Tryz.func4 (by kernel_rfl)
    (of_decide_eq_true (by kernel_rfl)) (by unfold Func.isWrapper; first | (rw [if_pos (by decide +kernel)]; kernel_rfl) | (rw [if_neg (by decide +kernel)]; exact ⟨rfl, rfl⟩))
    (fun os started H enc _ => recordRaw_lifted os started H enc)

theorem recordRaw_card : Rows.RecordRawCardSaid :=
  Claim7.holds_tied_plain_at .later [] [.data, .data, .pinned] true (true, "fde69174d6d408d6131d9502f858b52fb59510ff617c3c2862b0d153e04c42c2") false
    recordRaw_holds (fun _ h => by cases h) (by kernel_rfl) (fun _ h => by cases h) recordRaw_row_tie rfl ⟨rfl, rfl⟩ (by kernel_rfl) rfl
    (fun f fn hf hfn => by
      obtain rfl : f = 4 := Option.some.inj ((show Tryz.prog.funcNamed "cresset/cressetlaw15.RecordRaw" = some 4 by kernel_rfl).symm.trans hf) |>.symm
      obtain rfl : fn = Tryz.f4 := (Option.some.inj (Tryz.func4.symm.trans hfn)).symm
      exact ⟨by kernel_rfl, fun j t ht => by
        rw [Tryz.params4] at ht
        have hm : t ∈ [23, 9] := by simpa using Array.mem_of_getElem? ht
        have hall : ([23, 9].all fun u => !Tryz.prog.wantsStandIn u) = true := by kernel_rfl
        exact (show Tryz.prog.wantsStandIn t = false by simpa using List.all_eq_true.1 hall t hm)⟩)
    (by kernel_rfl)
#print axioms recordRaw_card
end Go.Proofs.YtffnafikegakcaaGreatDoor
