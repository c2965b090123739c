/- MacLabels: for every key, label and context of at most 1000 bytes and every number the program's Label is the reference's; the chapter's examples hold. No condition; the two tables of package sha lie as the program's text lays them. -/
import Derived.Test.YthcfolefdalaiaaDoorFrame
import Derived.Test.YthcfolefdalaiaaDoorCards
import Derived.Test.YthcfolefdalaiaaDoorTie
import Derived.SevenTiedAt
import Derived.Test.YthcfolefdalaiaaDoorMacAwake
import Derived.Test.YthcfolefdalaiaaDoorRefLabel
import Derived.Test.YthcfolefdalaiaaDoorArgs
namespace Go.Proofs.YthcfolefdalaiaaDoor
open Go.ChangeShapes Go.WideShapes Go.ChangeAt Go.WideMaps Go.WideElems Go.RowKit
open Go.ChangeMaps (open_string shut_string)
set_option maxRecDepth 100000
set_option linter.unusedSimpArgs false
set_option linter.unusedVariables false

theorem cells3 (w : World) (l c : ByteArray) (n : Int) : (w.alloc (.cells #[.string l, .string c, .int .i64 n] 41)).cell? ⟨w.heap.size, 0, none⟩ = some (.string l) ∧ (w.alloc (.cells #[.string l, .string c, .int .i64 n] 41)).cell? ⟨w.heap.size, 1, none⟩ = some (.string c) ∧ (w.alloc (.cells #[.string l, .string c, .int .i64 n] 41)).cell? ⟨w.heap.size, 2, none⟩ = some (.int .i64 n) := by
  refine ⟨?_, ?_, ?_⟩ <;> (rw [cell_of_row _ _ _ _ _ _ (blk_new w _)]; rfl)
set_option maxHeartbeats 4000000 in
theorem macLabels_any (k l c : ByteArray) (n : Int) (w : World) (hk : k.size ≤ maxLen) (hl : l.size ≤ maxLen) (hc : c.size ≤ maxLen) (hK : TabK w kf) (hH : TabH w hf) :
    Calls Tryd.prog 8 #[.string k, .agg #[.string l, .string c, .int .i64 n]] w fun e w' => e = .returned (.bool true) ∧ Below w.heap.size w w' := by
  unfold maxLen at hk hl hc
  have hB0 := below_new w (.cells #[.string l, .string c, .int .i64 n] 41)
  obtain ⟨c0, c1, c2⟩ := cells3 w l c n
  have hK0 := hK.below hB0 hK.lt; have hH0 := hH.below hB0 hH.lt
  have hsz0 : w.heap.size ≤ (w.alloc (.cells #[.string l, .string c, .int .i64 n] 41)).heap.size := by simp
  clear hK hH
  by_cases h1 : 1000 < k.size
  · have hd1 : decide ((1000 : Int) < (k.size : Int)) = true := by simp; omega
    go_enter Tryd.func8, Tryd.ntmps8
    go_wp2_with fail
    refine (mawake_any _ hK0 hH0).mono ?_
    rintro e W1 ⟨rfl, hb1⟩
    go_wp2_with fail
    go_ret
    exact ⟨rfl, hB0.trans (hb1.mono hsz0)⟩
  have hd1 : decide ((1000 : Int) < (k.size : Int)) = false := by simp; omega
  by_cases h2 : 1000 < l.size
  · have hd2 : decide ((1000 : Int) < (l.size : Int)) = true := by simp; omega
    go_enter Tryd.func8, Tryd.ntmps8
    go_wp2_with fail
    refine (mawake_any _ hK0 hH0).mono ?_
    rintro e W1 ⟨rfl, hb1⟩
    go_wp2_with fail
    go_ret
    exact ⟨rfl, hB0.trans (hb1.mono hsz0)⟩
  have hd2 : decide ((1000 : Int) < (l.size : Int)) = false := by simp; omega
  by_cases h3 : 1000 < c.size
  · have hd3 : decide ((1000 : Int) < (c.size : Int)) = true := by simp; omega
    go_enter Tryd.func8, Tryd.ntmps8
    go_wp2_with fail
    refine (mawake_any _ hK0 hH0).mono ?_
    rintro e W1 ⟨rfl, hb1⟩
    go_wp2_with fail
    go_ret
    exact ⟨rfl, hB0.trans (hb1.mono hsz0)⟩
  have hd3 : decide ((1000 : Int) < (c.size : Int)) = false := by simp; omega
  obtain ⟨x, q, x1, x2⟩ : ∃ (x : ByteArray) (q : Int), (∀ W, TabK W kf → TabH W hf → Calls Tryd.prog 27 #[.string k, .string l, .string c, .int .i64 n] W fun e w' => e = .returned (.tuple #[.string x, .int .i64 q]) ∧ Below W.heap.size W w') ∧ (∀ W, Calls Tryd.prog 28 #[.string k, .string l, .string c, .int .i64 n] W fun e w' => e = .returned (.tuple #[.string x, .int .i64 q]) ∧ Below W.heap.size W w') := by
    by_cases hneg : n < 0
    · exact ⟨_, _, fun W _ _ => labelNeg_any k l c n W hneg, fun W => refLabelNeg_any k l c n W hneg⟩
    by_cases hbig : 249 < l.size ∨ 255 < c.size ∨ 8160 < n
    · exact ⟨_, _, fun W _ _ => labelBig_any k l c n W hneg hbig, fun W => refLabelBig_any k l c n W hneg hbig⟩
    obtain ⟨m, rfl⟩ : ∃ m : Nat, n = (m : Int) := ⟨n.toNat, by omega⟩
    exact ⟨_, _, fun W hK hH => label_any k l c m W hK hH (by omega) (by omega) (by omega) (by omega), fun W => refLabel_any k l c m W (by omega) (by omega) (by omega) (by omega)⟩
  have X1 := Lib.hid x1; have X2 := Lib.hid x2
  clear x1 x2
  have ex : (x.toList == x.toList) = true := by simp
  have eq : (q == q) = true := by simp
  go_enter Tryd.func8, Tryd.ntmps8
  go_wp2_with fail
  generalize (w.alloc _) = W0 at *
  refine (X1.out W0 hK0 hH0).mono ?_
  rintro e W1 ⟨rfl, hb1⟩
  have hK1 := hK0.below hb1 hK0.lt; have hH1 := hH0.below hb1 hH0.lt
  have d0 := (hb1.cell (block_lt_of_cell c0)).trans c0; have d1 := (hb1.cell (block_lt_of_cell c1)).trans c1; have d2 := (hb1.cell (block_lt_of_cell c2)).trans c2
  have hB1 : Below w.heap.size w W1 := hB0.trans (hb1.mono hsz0)
  have hsz1 := Nat.le_trans hsz0 hb1.size
  clear X1 c0 c1 c2 hb1 hB0 hK0 hH0 hsz0
  go_wp2_with fail
  refine (X2.out W1).mono ?_
  rintro e W2 ⟨rfl, hb2⟩
  have hK2 := hK1.below hb2 hK1.lt; have hH2 := hH1.below hb2 hH1.lt
  have hB2 : Below w.heap.size w W2 := hB1.trans (hb2.mono hsz1)
  have hsz2 := Nat.le_trans hsz1 hb2.size
  clear X2 d0 d1 d2 hb2 hB1 hK1 hH1 hsz1
  go_wp2_with fail
  refine (mawake_any _ hK2 hH2).mono ?_
  rintro e W3 ⟨rfl, hb3⟩
  go_wp2_with fail
  go_ret
  exact ⟨rfl, hB2.trans (hb3.mono hsz2)⟩

theorem macLabels_lifted (os : Os) (started : os.Started) (H : Type) (enc : TypeId × Value → H) :
    ReturnsInHanded {} Tryd.checked os 8 .any (fun w args => (Rows.macLabelsSpec.pre enc Tryd.prog Tryd.f8 [] false w args ∧ laidMetH Tryd.prog laid2 w) ∧ sizedMet enc Tryd.prog Tryd.f8 (OpenSpec.ofChange Rows.macLabelsSpec) false w args)
      (Rows.macLabelsSpec.post enc Tryd.prog Tryd.f8 false true false false) := by
  refine returnsInHanded_of_change_and (C := Tryd.checked) (X := fun w _ => laidMetH Tryd.prog laid2 w) (fun _ _ _ hh h => h.of_heap hh) own started (by kernel_rfl) Tryd.func8
    (ChangeSpec.witness_shaped (enc := enc) (C := Tryd.checked) (os := os) (X := fun w _ => laidMetH Tryd.prog laid2 w) false (World.doorLaid Tryd.prog 400 os) #[.string ⟨#[]⟩, .agg #[.string ⟨#[]⟩, .string ⟨#[]⟩, .int .i64 0]] 8 rfl (World.shaped_of_RefB (by kernel_rfl) (by kernel_rfl)) (by kernel_rfl) (by kernel_rfl) (by kernel_rfl) (door_met os _)) ?_
  intro W base args ds gs before hval0 hW _ _ hL _
  have hval : ∀ (j : Nat) t v, Tryd.f8.params[j]? = some t → args[j]? = some v → Value.okWide Tryd.prog W .any base t v := hval0
  have hW' := hW
  obtain ⟨p, q, hA0, hV, rfl, hfz, hnd⟩ := hW
  have hA : DataW.TrodAll enc Tryd.prog W 0 (fun _ => true) true Tryd.f8.params.toList args.toList ds p := hA0
  rw [Tryd.params8] at hA hval
  obtain ⟨v0, v1, d0, d1, p0, p1, rfl, rfl, rfl, h0, h1⟩ := trodAll_two hA
  obtain ⟨rfl, rfl⟩ := trodVars_none hV
  obtain ⟨s0, rfl, rfl, rfl, w0⟩ := open_string Tryd.underlying9 (hval 0 9 v0 rfl rfl) h0
  obtain ⟨c0, c1, c2, y0, y1, y2, m, rfl, rfl, rfl, hy0, hy1, hy2⟩ := Joins.open_agg3 Tryd.underlying41 (by kernel_rfl) (by kernel_rfl) (hval 1 41 v1 rfl rfl) h1
  obtain ⟨sl, e0, rfl, wl⟩ := DataW.trod_string Tryd.underlying9 hy0
  obtain ⟨sc, e1, rfl, wc⟩ := DataW.trod_string Tryd.underlying9 hy1
  obtain ⟨sn, e2, rfl, wn⟩ := DataW.trod_int Tryd.underlying3 hy2
  simp at e0 e1 e2
  subst e0 e1 e2
  obtain ⟨hH, hK⟩ := of_laid hL
  clear hA0 hval0
  simp only [List.append_nil] at hW'
  refine (macLabels_any s0 sl sc sn W w0 wl wc hK hH).mono fun e W' ⟨he, hb⟩ => ?_
  subst he
  refine ⟨_, rfl, _, _, _, [], [], [], hW', ?_, ?_, rfl, hb.frame _, fun h => by cases h⟩
  · exact trodAll_mk1 (shut_bool Tryd.underlying4 _)
  · exact trodAll_mk2 (shut_string Tryd.underlying9 w0) (Joins.shut_agg3 (y0 := (.lit (.string sl.data.toList), [])) (y1 := (.lit (.string sc.data.toList), [])) (y2 := (.lit (.int .i64 sn), [])) Tryd.underlying41 (by kernel_rfl) (by kernel_rfl) ⟨1, by simp [DataW.trod, Tryd.underlying9, wl]⟩ ⟨1, by simp [DataW.trod, Tryd.underlying9, wc]⟩ ⟨1, by simp [DataW.trod, Tryd.underlying3, wn]⟩)

theorem macLabels_holds : Rows.MacLabelsSaid :=
  OpenClaim.holds_of_wide 8 Tryd.f8 rfl rfl rfl rfl rfl rfl rfl ⟨rfl, rfl, rfl, rfl, rfl⟩ rfl rfl rfl rfl rfl (by kernel_rfl) Tryd.func8 (by kernel_rfl)
    (of_decide_eq_true (by kernel_rfl)) (by unfold Func.isWrapper; first | (rw [if_pos (by decide +kernel)]; kernel_rfl) | (rw [if_neg (by decide +kernel)]; exact ⟨rfl, rfl⟩))
    (fun os started H enc _ => macLabels_lifted os started H enc)

theorem macLabels_card : Rows.MacLabelsCardSaid :=
  Claim7.holds_tied_plain_at .later [] [.data, .data] true (true, "225435dd55d283f3af50af713b04fb7b7711febad748264678e6632345c27f3b") false
    macLabels_holds (fun _ h => by cases h) (by kernel_rfl) (fun _ h => by cases h) macLabels_row_tie rfl ⟨rfl, rfl⟩ (by kernel_rfl) rfl
    (fun f fn hf hfn => by
      obtain rfl : f = 8 := Option.some.inj ((show Tryd.prog.funcNamed "cresset/cressetlaw02.MacLabels" = some 8 by kernel_rfl).symm.trans hf) |>.symm
      obtain rfl : fn = Tryd.f8 := (Option.some.inj (Tryd.func8.symm.trans hfn)).symm
      exact ⟨by kernel_rfl, fun j t ht => by
        rw [Tryd.params8] at ht
        have hm : t ∈ [9, 41] := by simpa using Array.mem_of_getElem? ht
        have hall : ([9, 41].all fun u => !Tryd.prog.wantsStandIn u) = true := by kernel_rfl
        exact (show Tryd.prog.wantsStandIn t = false by simpa using List.all_eq_true.1 hall t hm)⟩)
    (by kernel_rfl)
#print axioms macLabels_card
end Go.Proofs.YthcfolefdalaiaaDoor
