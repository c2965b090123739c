/- ShaTakes: for every size and every pieces (of which up to thirty, of at most 1000 bytes, are taken up) the program's hash has the reference's digest of what it has taken up, asked for twice, behind each piece; another size is refused; the chapter's two examples hold. No condition; the two tables of package sha lie as the program's text lays them. -/
import Derived.Test.YthcfolefdalaiaaDoorFrame
import Derived.Test.YthcfolefdalaiaaDoorCards
import Derived.Test.YthcfolefdalaiaaDoorTie
import Derived.SevenTiedAt
import Derived.Test.YthcfolefdalaiaaDoorTakes32
import Derived.Test.YthcfolefdalaiaaDoorTakes64
import Derived.SliceStrings
import Derived.Carry
namespace Go.Proofs.YthcfolefdalaiaaDoor
open Go.ChangeShapes Go.WideShapes Go.ChangeAt Go.WideMaps Go.WideElems Go.RowKit
open Go.ChangeMaps (open_string shut_string)
set_option maxRecDepth 100000
set_option linter.unusedSimpArgs false
set_option linter.unusedVariables false

theorem newNone_any (n : Int) (w : World) (h1 : n ≠ 32) (h2 : n ≠ 64) : Calls Tryd.prog 16 #[.int .i64 n] w fun e w' => e = .returned (.tuple #[.pointer none, .int .i64 1]) ∧ Below w.heap.size w w' := by
  have hd1 : (n == 32) = false := by simpa using h1
  have hd2 : (n == 64) = false := by simpa using h2
  go_enter Tryd.func16, Tryd.ntmps16
  go_wp2_with fail
  go_ret2
  exact ⟨rfl, Below.refl _ _⟩
set_option maxHeartbeats 1000000 in
theorem shaTakes_any (n : Int) (ao : Option Addr) (len cap : Nat) (f : Nat → ByteArray) (w : World) (hlen : len ≤ maxLen)
    (hc : ∀ j, j < len → ∃ g off, ao = some ⟨g, off, none⟩ ∧ g < w.heap.size ∧ w.cell? ⟨g, off + j, none⟩ = some (.string (f j)) ∧ (f j).size ≤ maxLen) (hK : TabK w kf) (hH : TabH w hf) :
    Calls Tryd.prog 4 #[.int .i64 n, .slice ao len cap] w fun e w' => e = .returned (.bool true) ∧ Below w.heap.size w w' := by
  by_cases h32 : n = 32
  · subst h32
    exact takes32_any ao len cap f w hlen hc hK hH
  by_cases h64 : n = 64
  · subst h64
    exact takes64_any ao len cap f w hlen hc hK hH
  have hd1 : (n != 32) = true := by simpa using h32
  have hd2 : (n != 64) = true := by simpa using h64
  clear hc
  go_enter Tryd.func4, Tryd.ntmps4
  go_wp2_with fail
  refine (newNone_any n w h32 h64).mono ?_
  rintro e W1 ⟨rfl, hb1⟩
  have hK1 := hK.below hb1 hK.lt; have hH1 := hH.below hb1 hH.lt
  go_wp2_with fail
  refine (awake_any _ hK1 hH1).mono ?_
  rintro e W2 ⟨rfl, hb2⟩
  go_wp2_with fail
  go_ret
  exact ⟨rfl, hb1.trans (hb2.mono hb1.size)⟩
theorem laidOut : laidOutB Tryd.prog = true := by kernel_rfl
theorem add_lits (g off j : Nat) : (⟨g, off, none⟩ : Addr).add j = ⟨g, off + j, none⟩ := by
  unfold Addr.add; split <;> simp_all

theorem shaTakes_lifted (os : Os) (started : os.Started) (H : Type) (enc : TypeId × Value → H) :
    ReturnsInHanded {} Tryd.checked os 4 .any (fun w args => (Rows.shaTakesSpec.pre enc Tryd.prog Tryd.f4 [] false w args ∧ laidMetH Tryd.prog laid2 w) ∧ sizedMet enc Tryd.prog Tryd.f4 (OpenSpec.ofChange Rows.shaTakesSpec) false w args)
      (Rows.shaTakesSpec.post enc Tryd.prog Tryd.f4 false true false false) := by
  refine returnsInHanded_of_change_and (C := Tryd.checked) (X := fun w _ => laidMetH Tryd.prog laid2 w) (fun _ _ _ hh h => h.of_heap hh) own started (by kernel_rfl) Tryd.func4
    (ChangeSpec.witness_shaped (enc := enc) (C := Tryd.checked) (os := os) (X := fun w _ => laidMetH Tryd.prog laid2 w) false (World.doorLaid Tryd.prog 400 os) #[.int .i64 0, .slice none 0 0] 8 rfl (World.shaped_of_RefB (by kernel_rfl) (by kernel_rfl)) (by kernel_rfl) (by kernel_rfl) (by kernel_rfl) (door_met os _)) ?_
  intro W base args ds gs before hval0 hW _ _ hL _
  have hval : ∀ (j : Nat) t v, Tryd.f4.params[j]? = some t → args[j]? = some v → Value.okWide Tryd.prog W .any base t v := hval0
  have hW' := hW
  obtain ⟨p, q, hA0, hV, rfl, hfz, hnd⟩ := hW
  have hA : DataW.TrodAll enc Tryd.prog W 0 (fun _ => true) true Tryd.f4.params.toList args.toList ds p := hA0
  rw [Tryd.params4] at hA hval
  obtain ⟨v0, v1, d0, d1, p0, p1, rfl, rfl, rfl, h0, h1⟩ := trodAll_two hA
  obtain ⟨rfl, rfl⟩ := trodVars_none hV
  obtain ⟨n, rfl, rfl, rfl, wn⟩ := open_int Tryd.underlying3 (hval 0 3 v0 rfl rfl) h0
  obtain ⟨a0, len, cap, rfl⟩ := okWide_slice Tryd.underlying25 (hval 1 25 v1 rfl rfl)
  have h1k := h1
  obtain ⟨fuel, hf⟩ := h1
  obtain ⟨hH, hK⟩ := of_laid hL
  clear hA0 hval0
  simp only [List.append_nil, List.nil_append] at hW'
  have hlt : ∀ x ∈ p1, x.block < W.heap.size := fun x hx => by simpa using hW'.lt x (by simpa using hx)
  obtain ⟨f, hlen, hc⟩ : ∃ f : Nat → ByteArray, len ≤ maxLen ∧ ∀ j, j < len → ∃ g off, a0 = some ⟨g, off, none⟩ ∧ g < W.heap.size ∧ W.cell? ⟨g, off + j, none⟩ = some (.string (f j)) ∧ (f j).size ≤ maxLen := by
    rcases open_strings Tryd.underlying25 Tryd.underlying9 (by kernel_rfl) hf with ⟨hcs, hx⟩ | ⟨a, len', cap', ss, hcs, _, hl, hm, hz, hx, hcell, hws⟩
    · simp [Value.cells] at hcs
      obtain ⟨rfl, rfl, rfl⟩ := hcs
      exact ⟨fun _ => ByteArray.empty, by unfold maxLen; omega, fun j hj => by omega⟩
    · simp [Value.cells] at hcs
      obtain ⟨rfl, rfl, rfl⟩ := hcs
      simp only [Prod.mk.injEq] at hx
      obtain ⟨rfl, rfl⟩ := hx
      simp only [if_true] at hz
      refine ⟨fun i => ss.getD i ByteArray.empty, by omega, fun j hj => ?_⟩
      obtain ⟨g, off, spot⟩ := a
      have hspot : spot = none := by simpa [Addr.add] using World.cell?_spot (hcell 0 (by omega))
      subst hspot
      refine ⟨g, off, rfl, hlt (.cell g off) (MemPlace.mem_row.2 ⟨0, by omega, by simp⟩), by rw [← add_lits]; exact hcell j (by omega), ?_⟩
      have hjs : j < ss.length := by omega
      have := hws ss[j] (List.getElem_mem hjs)
      simpa [List.getD_eq_getElem?_getD, hjs] using this
  refine (shaTakes_any n a0 len cap f W hlen hc hK hH).mono fun e W' ⟨he, hb⟩ => ?_
  subst he
  refine ⟨_, rfl, _, _, _, [], [] ++ p1, [], hW', ?_, ?_, rfl, hb.frame _, fun h => by cases h⟩
  · exact trodAll_mk1 (shut_bool Tryd.underlying4 _)
  · exact trodAll_mk2 (shut_int Tryd.underlying3 wn) (Below.trod laidOut (by kernel_rfl) (of_decide_eq_true (by kernel_rfl)) h1k hb hlt)

theorem shaTakes_holds : Rows.ShaTakesSaid :=
  OpenClaim.holds_of_wide 4 Tryd.f4 rfl rfl rfl rfl rfl rfl rfl ⟨rfl, rfl, rfl, rfl, rfl⟩ rfl rfl rfl rfl rfl (by kernel_rfl) Tryd.func4 (by kernel_rfl)
    (of_decide_eq_true (by kernel_rfl)) (by unfold Func.isWrapper; first | (rw [if_pos (by decide +kernel)]; kernel_rfl) | (rw [if_neg (by decide +kernel)]; exact ⟨rfl, rfl⟩))
    (fun os started H enc _ => shaTakes_lifted os started H enc)

theorem shaTakes_card : Rows.ShaTakesCardSaid :=
  Claim7.holds_tied_plain_at .later [] [.data, .data] true (true, "225435dd55d283f3af50af713b04fb7b7711febad748264678e6632345c27f3b") false
    shaTakes_holds (fun _ h => by cases h) (by kernel_rfl) (fun _ h => by cases h) shaTakes_row_tie rfl ⟨rfl, rfl⟩ (by kernel_rfl) rfl
    (fun f fn hf hfn => by
      obtain rfl : f = 4 := Option.some.inj ((show Tryd.prog.funcNamed "cresset/cressetlaw01.ShaTakes" = some 4 by kernel_rfl).symm.trans hf) |>.symm
      obtain rfl : fn = Tryd.f4 := (Option.some.inj (Tryd.func4.symm.trans hfn)).symm
      exact ⟨by kernel_rfl, fun j t ht => by
        rw [Tryd.params4] at ht
        have hm : t ∈ [3, 25] := by simpa using Array.mem_of_getElem? ht
        have hall : ([3, 25].all fun u => !Tryd.prog.wantsStandIn u) = true := by kernel_rfl
        exact (show Tryd.prog.wantsStandIn t = false by simpa using List.all_eq_true.1 hall t hm)⟩)
    (by kernel_rfl)
#print axioms shaTakes_card
end Go.Proofs.YthcfolefdalaiaaDoor
