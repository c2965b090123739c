/- MacBegins: for every key and info of at most 1000 bytes and every two numbers from 0 to 1000, the first not above the second, the program's Expand answers OK and so many bytes for both, and the shorter answer is a beginning of the longer one; the chapter's examples hold. No condition; the two tables of package sha lie as the program's text lays them. -/
import Derived.Test.YthcfolefdalaiaaDoorFrame
import Derived.Test.YthcfolefdalaiaaDoorCards
import Derived.Test.YthcfolefdalaiaaDoorTie
import Derived.SevenTiedAt
import Derived.Test.YthcfolefdalaiaaDoorMacAwake
import Derived.Test.YthcfolefdalaiaaDoorArgs
namespace Go.Proofs.YthcfolefdalaiaaDoor
open Go.ChangeShapes Go.WideShapes Go.ChangeAt Go.WideMaps Go.WideElems Go.RowKit
open Go.ChangeMaps (open_string shut_string)
set_option maxRecDepth 100000
set_option linter.unusedSimpArgs false
set_option linter.unusedVariables false

theorem cells2 (w : World) (a b : Int) : (w.alloc (.cells #[.int .i64 a, .int .i64 b] 44)).cell? ⟨w.heap.size, 0, none⟩ = some (.int .i64 a) ∧ (w.alloc (.cells #[.int .i64 a, .int .i64 b] 44)).cell? ⟨w.heap.size, 1, none⟩ = some (.int .i64 b) := by
  constructor <;> (rw [cell_of_row _ _ _ _ _ _ (blk_new w _)]; rfl)
set_option maxHeartbeats 4000000 in
theorem macBegins_any (k i : ByteArray) (a b : Int) (w : World) (hk : k.size ≤ maxLen) (hi : i.size ≤ maxLen) (hK : TabK w kf) (hH : TabH w hf) :
    Calls Tryd.prog 10 #[.string k, .string i, .agg #[.int .i64 a, .int .i64 b]] w fun e w' => e = .returned (.bool true) ∧ Below w.heap.size w w' := by
  unfold maxLen at hk hi
  have hB0 := below_new w (.cells #[.int .i64 a, .int .i64 b] 44)
  obtain ⟨c0, c1⟩ := cells2 w a b
  have hK0 := hK.below hB0 hK.lt; have hH0 := hH.below hB0 hH.lt
  have hsz0 : w.heap.size ≤ (w.alloc (.cells #[.int .i64 a, .int .i64 b] 44)).heap.size := by simp
  clear hK hH
  by_cases h1 : 1000 < k.size
  · have hd1 : decide ((1000 : Int) < (k.size : Int)) = true := by simp; omega
    go_enter Tryd.func10, Tryd.ntmps10
    go_wp2_with fail
    refine (mawake_any _ hK0 hH0).mono ?_
    rintro e W1 ⟨rfl, hb1⟩
    go_wp2_with fail
    go_ret
    exact ⟨rfl, hB0.trans (hb1.mono hsz0)⟩
  have hd1 : decide ((1000 : Int) < (k.size : Int)) = false := by simp; omega
  by_cases h2 : 1000 < i.size
  · have hd2 : decide ((1000 : Int) < (i.size : Int)) = true := by simp; omega
    go_enter Tryd.func10, Tryd.ntmps10
    go_wp2_with fail
    refine (mawake_any _ hK0 hH0).mono ?_
    rintro e W1 ⟨rfl, hb1⟩
    go_wp2_with fail
    go_ret
    exact ⟨rfl, hB0.trans (hb1.mono hsz0)⟩
  have hd2 : decide ((1000 : Int) < (i.size : Int)) = false := by simp; omega
  by_cases h3 : a < 0
  · have hd3 : decide (a < 0) = true := by simp; omega
    go_enter Tryd.func10, Tryd.ntmps10
    go_wp2_with fail
    refine (mawake_any _ hK0 hH0).mono ?_
    rintro e W1 ⟨rfl, hb1⟩
    go_wp2_with fail
    go_ret
    exact ⟨rfl, hB0.trans (hb1.mono hsz0)⟩
  have hd3 : decide (a < 0) = false := by simp; omega
  by_cases h4 : b < a
  · have hd4 : decide (b < a) = true := by simp; omega
    go_enter Tryd.func10, Tryd.ntmps10
    go_wp2_with fail
    refine (mawake_any _ hK0 hH0).mono ?_
    rintro e W1 ⟨rfl, hb1⟩
    go_wp2_with fail
    go_ret
    exact ⟨rfl, hB0.trans (hb1.mono hsz0)⟩
  have hd4 : decide (b < a) = false := by simp; omega
  by_cases h5 : 1000 < b
  · have hd5 : decide ((1000 : Int) < b) = true := by simp; omega
    go_enter Tryd.func10, Tryd.ntmps10
    go_wp2_with fail
    refine (mawake_any _ hK0 hH0).mono ?_
    rintro e W1 ⟨rfl, hb1⟩
    go_wp2_with fail
    go_ret
    exact ⟨rfl, hB0.trans (hb1.mono hsz0)⟩
  have hd5 : decide ((1000 : Int) < b) = false := by simp; omega
  obtain ⟨m, rfl⟩ : ∃ m : Nat, a = (m : Int) := ⟨a.toNat, by omega⟩
  obtain ⟨n, rfl⟩ : ∃ n : Nat, b = (n : Int) := ⟨b.toNat, by omega⟩
  have hmn : m ≤ n := by omega
  have hn : n ≤ 1000 := by omega
  have x1 := fun W hK hH => expand_any k i m W hK hH (by omega) (by omega) (by omega)
  have x2 := fun W hK hH => expand_any k i n W hK hH (by omega) (by omega) (by omega)
  have L1 := Lib.hid (show (⟨(expL (blockL (keyOf32 k.data.toList)) i.data.toList m).toArray⟩ : ByteArray).size = m from by rw [Lib.size_eq]; simpa using expL_length _ _ m)
  have L2 := Lib.hid (show (⟨(expL (blockL (keyOf32 k.data.toList)) i.data.toList n).toArray⟩ : ByteArray).size = n from by rw [Lib.size_eq]; simpa using expL_length _ _ n)
  have EX := Lib.hid (show ((⟨(expL (blockL (keyOf32 k.data.toList)) i.data.toList n).toArray⟩ : ByteArray).extract 0 m).toList = (⟨(expL (blockL (keyOf32 k.data.toList)) i.data.toList m).toArray⟩ : ByteArray).toList from by
    rw [Lib.toList_data, Lib.toList_data, Lib.extract_data]
    simpa using expL_begins (blockL (keyOf32 k.data.toList)) i.data.toList m n hmn)
  have X1 := Lib.hid x1; have X2 := Lib.hid x2
  clear x1 x2
  generalize (⟨(expL (blockL (keyOf32 k.data.toList)) i.data.toList m).toArray⟩ : ByteArray) = x at *
  generalize (⟨(expL (blockL (keyOf32 k.data.toList)) i.data.toList n).toArray⟩ : ByteArray) = y at *
  go_enter Tryd.func10, Tryd.ntmps10
  go_wp2_with fail
  have hlt0 := block_lt_of_cell c0
  generalize (w.alloc _) = W0 at *
  refine (X1.out W0 hK0 hH0).mono ?_
  rintro e W1 ⟨rfl, hb1⟩
  have hK1 := hK0.below hb1 hK0.lt; have hH1 := hH0.below hb1 hH0.lt
  have d0 := (hb1.cell (block_lt_of_cell c0)).trans c0; have d1 := (hb1.cell (block_lt_of_cell c1)).trans c1
  have hB1 : Below w.heap.size w W1 := hB0.trans (hb1.mono hsz0)
  have hsz1 := Nat.le_trans hsz0 hb1.size
  clear X1 c0 c1 hb1 hB0 hK0 hH0 hsz0
  go_wp2_with fail
  refine (X2.out W1 hK1 hH1).mono ?_
  rintro e W2 ⟨rfl, hb2⟩
  have hK2 := hK1.below hb2 hK1.lt; have hH2 := hH1.below hb2 hH1.lt
  have c0 := (hb2.cell (block_lt_of_cell d0)).trans d0; have c1 := (hb2.cell (block_lt_of_cell d1)).trans d1
  have hB2 : Below w.heap.size w W2 := hB1.trans (hb2.mono hsz1)
  have hsz2 := Nat.le_trans hsz1 hb2.size
  have l1 : ((x.size : Int) == (m : Int)) = true := by rw [L1.out]; simp
  have l2 : ((y.size : Int) == (n : Int)) = true := by rw [L2.out]; simp
  have l3 : (m : Int) ≤ (y.size : Int) := by rw [L2.out]; omega
  have l4 : ((y.extract 0 m).toList == x.toList) = true := by rw [EX.out]; simp
  clear X2 d0 d1 hb2 hB1 hK1 hH1 hsz1
  go_wp2_with fail
  refine (mawake_any _ hK2 hH2).mono ?_
  rintro e W3 ⟨rfl, hb3⟩
  go_wp2_with fail
  go_ret
  exact ⟨rfl, hB2.trans (hb3.mono hsz2)⟩

theorem macBegins_lifted (os : Os) (started : os.Started) (H : Type) (enc : TypeId × Value → H) :
    ReturnsInHanded {} Tryd.checked os 10 .any (fun w args => (Rows.macBeginsSpec.pre enc Tryd.prog Tryd.f10 [] false w args ∧ laidMetH Tryd.prog laid2 w) ∧ sizedMet enc Tryd.prog Tryd.f10 (OpenSpec.ofChange Rows.macBeginsSpec) false w args)
      (Rows.macBeginsSpec.post enc Tryd.prog Tryd.f10 false true false false) := by
  refine returnsInHanded_of_change_and (C := Tryd.checked) (X := fun w _ => laidMetH Tryd.prog laid2 w) (fun _ _ _ hh h => h.of_heap hh) own started (by kernel_rfl) Tryd.func10
    (ChangeSpec.witness_shaped (enc := enc) (C := Tryd.checked) (os := os) (X := fun w _ => laidMetH Tryd.prog laid2 w) false (World.doorLaid Tryd.prog 400 os) #[.string ⟨#[]⟩, .string ⟨#[]⟩, .agg #[.int .i64 0, .int .i64 0]] 8 rfl (World.shaped_of_RefB (by kernel_rfl) (by kernel_rfl)) (by kernel_rfl) (by kernel_rfl) (by kernel_rfl) (door_met os _)) ?_
  intro W base args ds gs before hval0 hW _ _ hL _
  have hval : ∀ (j : Nat) t v, Tryd.f10.params[j]? = some t → args[j]? = some v → Value.okWide Tryd.prog W .any base t v := hval0
  have hW' := hW
  obtain ⟨p, q, hA0, hV, rfl, hfz, hnd⟩ := hW
  have hA : DataW.TrodAll enc Tryd.prog W 0 (fun _ => true) true Tryd.f10.params.toList args.toList ds p := hA0
  rw [Tryd.params10] at hA hval
  obtain ⟨v0, v1, v2, d0, d1, d2, p0, p1, p2, rfl, rfl, rfl, h0, h1, h2⟩ := trodAll_three hA
  obtain ⟨rfl, rfl⟩ := trodVars_none hV
  obtain ⟨s0, rfl, rfl, rfl, w0⟩ := open_string Tryd.underlying9 (hval 0 9 v0 rfl rfl) h0
  obtain ⟨s1, rfl, rfl, rfl, w1⟩ := open_string Tryd.underlying9 (hval 1 9 v1 rfl rfl) h1
  obtain ⟨a2, b2, rfl, rfl, rfl, wa2, wb2⟩ := open_ints2 Tryd.underlying44 Tryd.underlying3 (by kernel_rfl) (by kernel_rfl) (hval 2 44 v2 rfl rfl) h2
  obtain ⟨hH, hK⟩ := of_laid hL
  clear hA0 hval0
  simp only [List.append_nil] at hW'
  refine (macBegins_any s0 s1 a2 b2 W w0 w1 hK hH).mono fun e W' ⟨he, hb⟩ => ?_
  subst he
  refine ⟨_, rfl, _, _, _, [], [], [], hW', ?_, ?_, rfl, hb.frame _, fun h => by cases h⟩
  · exact trodAll_mk1 (shut_bool Tryd.underlying4 _)
  · exact trodAll_mk3 (shut_string Tryd.underlying9 w0) (shut_string Tryd.underlying9 w1) (shut_ints2 Tryd.underlying44 Tryd.underlying3 (by kernel_rfl) (by kernel_rfl) wa2 wb2)

theorem macBegins_holds : Rows.MacBeginsSaid :=
  OpenClaim.holds_of_wide 10 Tryd.f10 rfl rfl rfl rfl rfl rfl rfl ⟨rfl, rfl, rfl, rfl, rfl⟩ rfl rfl rfl rfl rfl (by kernel_rfl) Tryd.func10 (by kernel_rfl)
    (of_decide_eq_true (by kernel_rfl)) (by unfold Func.isWrapper; first | (rw [if_pos (by decide +kernel)]; kernel_rfl) | (rw [if_neg (by decide +kernel)]; exact ⟨rfl, rfl⟩))
    (fun os started H enc _ => macBegins_lifted os started H enc)

theorem macBegins_card : Rows.MacBeginsCardSaid :=
  Claim7.holds_tied_plain_at .later [] [.data, .data] true (true, "225435dd55d283f3af50af713b04fb7b7711febad748264678e6632345c27f3b") false
    macBegins_holds (fun _ h => by cases h) (by kernel_rfl) (fun _ h => by cases h) macBegins_row_tie rfl ⟨rfl, rfl⟩ (by kernel_rfl) rfl
    (fun f fn hf hfn => by
      obtain rfl : f = 10 := Option.some.inj ((show Tryd.prog.funcNamed "cresset/cressetlaw02.MacBegins" = some 10 by kernel_rfl).symm.trans hf) |>.symm
      obtain rfl : fn = Tryd.f10 := (Option.some.inj (Tryd.func10.symm.trans hfn)).symm
      exact ⟨by kernel_rfl, fun j t ht => by
        rw [Tryd.params10] at ht
        have hm : t ∈ [9, 9, 44] := by simpa using Array.mem_of_getElem? ht
        have hall : ([9, 9, 44].all fun u => !Tryd.prog.wantsStandIn u) = true := by kernel_rfl
        exact (show Tryd.prog.wantsStandIn t = false by simpa using List.all_eq_true.1 hall t hm)⟩)
    (by kernel_rfl)
#print axioms macBegins_card
end Go.Proofs.YthcfolefdalaiaaDoor
