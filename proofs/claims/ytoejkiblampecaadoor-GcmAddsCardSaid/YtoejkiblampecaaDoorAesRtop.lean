/- The reference's Ready, Block, Keys. -/
import Derived.Test.YtoejkiblampecaaDoorAesUnder
namespace Go.Proofs.YtoejkiblampecaaDoor
open Go.RowKit Go.Sort
set_option maxRecDepth 100000
set_option linter.unusedSimpArgs false
set_option linter.unusedVariables false

theorem keysAt_of_own {W : World} {base cap : Nat} {ao : Option Addr} {key : List UInt8} (h : Own W base (.slice ao 11 cap) ((List.range 11).map fun i => Value.string ⟨(rk key i).toArray⟩)) : ∃ K, ao = some ⟨K, 0, none⟩ ∧ KeysAt W K key := by
  obtain ⟨g, c, hv, ho, _⟩ := h.some (by simp)
  injection hv with h1 _ _
  exact ⟨g, h1, fun j hj => ho.cells j _ (by simp [hj])⟩
theorem infoSheet : (Tryd.prog.info? 43).map (fun i => (i.zero, i.size)) = some (some (.agg #[.slice none 0 0, .slice none 0 0]), 2) := by kernel_rfl

set_option maxHeartbeats 1000000 in
theorem ready_any (key : ByteArray) (w : World) (hk : key.size = 16) :
    Calls Tryd.prog 23 #[.string key] w fun e w' => (∃ K kc S, e = .returned (.agg (sheetC K kc S 256)) ∧ KeysAt w' K key.data.toList ∧ TabB w' S) ∧ Below w.heap.size w w' := by
  obtain ⟨hz, hi⟩ := zero_of_info infoSheet
  have HR0 := Lib.hid (blk_new w (.cells #[.slice none 0 0, .slice none 0 0] 43))
  have hb0 := below_new w (.cells #[.slice none 0 0, .slice none 0 0] 43)
  have HKS := Lib.hid hk
  have HI := Lib.hid hi
  clear hk hi
  go_enter Tryd.func23, Tryd.ntmps23
  go_wp2_with fail
  clear hz
  generalize hBB : w.heap.size = B at *
  have HBB := Lib.hid hBB
  clear hBB
  generalize w.alloc _ = W0 at *
  refine (table_any W0).mono ?_
  rintro e W1 ⟨⟨S, rfl, hS0, hS⟩, hb1⟩
  have hl0 := blk_lt HR0.out
  have HR1 := Lib.hid (blk_below hb1 hl0 HR0.out)
  have hTB := TabB.of_row hS
  have hb2 : Below B w W1 := hb0.trans (hb1.mono (by omega))
  have HK := Lib.hid (refKeys_any key S 256 W1 HKS.out hTB)
  have hl1 := blk_lt HR1.out
  clear hb0 hb1 HR0 hS
  go_wp2_with fail
  refine HK.out.mono ?_
  rintro e W2 ⟨⟨ao, cap, rfl, hown⟩, hb3⟩
  obtain ⟨K, rfl, hKA⟩ := keysAt_of_own hown
  have HR2 := Lib.hid (blk_below hb3 hl1 HR1.out)
  have hTB2 := hTB.below hb3 hTB.lt
  have hb4 := hb2.trans (hb3.mono (by omega))
  have hl2 := blk_lt HR2.out
  have hSne : S ≠ B := by omega
  clear hown hb3 hb2 HR1 HK hTB
  have hKne : K ≠ B := by
    intro e
    subst e
    have h1 := hKA 0 (by omega)
    rw [cell_of_row _ _ _ _ _ _ HR2.out] at h1
    simp at h1
  have HKA := Lib.hid hKA
  have HTB := Lib.hid hTB2
  clear hKA hTB2
  have HIs := Lib.hid (show (Tryd.prog.info? 43).map (·.size) = some (sheetC K cap S 256).size from HI.out)
  have HOs := Lib.hid (show (#[Value.slice none 0 0, Value.slice none 0 0] : Array Value).size = (sheetC K cap S 256).size from rfl)
  have H1s := Lib.hid (show (sheetC K cap S 256).all (·.oneCell') = true from by simp [sheetC, Value.oneCell'])
  go_wp2_with (first
    | (with_reducible refine wpList_store_row rfl 43 _ _ rfl B (sheetC K cap S 256) rfl rfl 43 _ HR2.out HIs.out HOs.out H1s.out ?_))
  have hKf : KeysAt (W2.setRow B (sheetC K cap S 256)) K key.data.toList := fun j hj => by
    rw [World.cell?_of_block (a := ⟨K, j, none⟩) (setRow_other W2 B K _ hKne)]; exact HKA.out j hj
  have hTf : TabB (W2.setRow B (sheetC K cap S 256)) S := fun x => by
    rw [World.cell?_of_block (a := ⟨S, x.toNat, none⟩) (setRow_other W2 B S _ hSne)]; exact HTB.out x
  exact bodyPost_ret (v := .agg (sheetC K cap S 256)) (results_cell_row (by rfl) _ _ B 43 _ (0, 0) _ rfl (setRow_heap _ _ _ _ _ _ HR2.out) Tryd.underlying43 rfl HIs.out) rfl ⟨⟨K, cap, S, rfl, hKf, hTf⟩, by rw [HBB.out]; exact below_setRow hb4 (Nat.le_refl _) _⟩

end Go.Proofs.YtoejkiblampecaaDoor
