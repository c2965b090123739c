/- SealBack: by both suites, for every key of the suite's size, nonce of 12 bytes, and everything that is beside and is sealed, of at most 2000 bytes each, what the program's Seal makes is opened by its Open, is refused with another byte in its tag, at whatever place, and by the other suite; the chapter's examples hold. No condition; the table of squares of package aes lies as the program's text lays it. -/
import Derived.Test.YtaodbhhdjehnnaaDoorCards
import Derived.Test.YtaodbhhdjehnnaaDoorTie
import Derived.SevenTiedAt
import Derived.Test.YtaodbhhdjehnnaaDoorSealWake
import Derived.Lib.SmallJoins
namespace Go.Proofs.YtaodbhhdjehnnaaDoor
open Go.ChangeShapes Go.WideShapes Go.ChangeAt Go.WideMaps Go.WideElems Go.RowKit
open Go.ChangeMaps (open_string shut_string)
set_option maxRecDepth 100000
set_option linter.unusedSimpArgs false
set_option linter.unusedVariables false

theorem splace_in (a : Int) : ∃ j : Nat, j < 16 ∧ (Int.tmod a 16 + 16).tmod 16 = (j : Int) ∧ -16 < Int.tmod a 16 ∧ Int.tmod a 16 < 16 := by
  have h1 := Int.tmod_lt_of_pos a (show (0 : Int) < 16 by omega)
  have h2 := Int.lt_tmod_of_pos a (show (0 : Int) < 16 by omega)
  have h3 : 0 ≤ (Int.tmod a 16 + 16).tmod 16 := Int.tmod_nonneg _ (by omega)
  have h4 := Int.tmod_lt_of_pos (Int.tmod a 16 + 16) (show (0 : Int) < 16 by omega)
  exact ⟨((Int.tmod a 16 + 16).tmod 16).toNat, by omega, by omega, h2, h1⟩
theorem sealG_take (k n b p : List UInt8) : (sealG k n b p).take ((sealG k n b p).length - 16) = strG k n p := by
  rw [sealG_length, Nat.add_sub_cancel, sealG, List.take_append_of_le_length (by rw [strG_length]; exact Nat.le_refl _), List.take_of_length_le (by rw [strG_length]; exact Nat.le_refl _)]
theorem sealG_drop (k n b p : List UInt8) : (sealG k n b p).drop ((sealG k n b p).length - 16) = tagG k n b (strG k n p) := by
  rw [sealG_length, Nat.add_sub_cancel, sealG, List.drop_append_of_le_length (by rw [strG_length]; exact Nat.le_refl _), List.drop_of_length_le (by rw [strG_length]; exact Nat.le_refl _), List.nil_append]
theorem tagOkG_seal (k n b p : List UInt8) : tagOk k n b (sealG k n b p) = true := by rw [tagOk, sealG_take, sealG_drop]; simp
theorem openG_sealG (k n b p : List UInt8) : openG k n b (sealG k n b p) = p := by rw [openG, sealG_take, strG_twice]
theorem tagOkG_set (k n b s : List UInt8) (p : Nat) (x : UInt8) (h1 : s.length - 16 ≤ p) (h2 : p < s.length) (hx : x ≠ s.getD p 0) (hok : tagOk k n b s = true) : tagOk k n b (s.set p x) = false := by
  rw [tagOk, List.length_set, List.take_set_of_le h1]
  simp only [tagOk, beq_iff_eq] at hok
  rw [hok]
  have hne : ¬ s.drop (s.length - 16) = (s.set p x).drop (s.length - 16) := fun h => by
    have h3 := congrArg (fun l : List UInt8 => l[p - (s.length - 16)]?) h
    simp only [List.getElem?_drop] at h3
    rw [show s.length - 16 + (p - (s.length - 16)) = p by omega, List.getElem?_set_self h2] at h3
    exact hx (by rw [List.getD_eq_getElem?_getD, h3]; rfl)
  simpa using hne
theorem flip4_ne (x : UInt8) : x ^^^ 4 ≠ x := fun h => by
  have e : x ^^^ (x ^^^ 4) = x ^^^ x := by rw [h]
  rw [← UInt8.xor_assoc, UInt8.xor_self, UInt8.zero_xor] at e
  exact absurd e (by decide)
/-- What is sealed by a suite, and opened by it, changed in its tag, and by the other suite. -/
theorem back_facts (su : Int) (k n b d : ByteArray) (hsu : (su = 4865 ∧ k.size = 16) ∨ (su = 4867 ∧ k.size = 32)) (hn : n.size = 12) :
    ∃ r : ByteArray, r.size = d.size + 16 ∧ sealO su k n b d = (r, 0) ∧ openO su k n b r = (d, 0) ∧ openO (9732 - su) k n b r = (noB, 21) ∧
      ∀ (p : Nat), r.size - 16 ≤ p → p < r.size → openO su k n b ⟨(r.data.toList.set p (r.data.toList.getD p 0 ^^^ 4)).toArray⟩ = (noB, 20) := by
  rcases hsu with ⟨rfl, hk⟩ | ⟨rfl, hk⟩
  · have hz : (⟨(sealG k.data.toList n.data.toList b.data.toList d.data.toList).toArray⟩ : ByteArray).size = d.size + 16 := by show (sealG _ _ _ _).length = _; rw [sealG_length, ← Lib.size_eq]
    refine ⟨⟨(sealG k.data.toList n.data.toList b.data.toList d.data.toList).toArray⟩, hz, by rw [sealO, if_pos rfl, if_pos ⟨hk, hn⟩], ?_, ?_, fun p h1 h2 => ?_⟩
    · rw [openO, if_pos rfl, if_pos ⟨hk, hn⟩, if_neg (by omega), tagOkG_seal, openG_sealG, if_pos rfl]
    · rw [openO, if_neg (by decide), if_pos (by decide), if_neg (by omega)]
    · have hz2 : (⟨((⟨(sealG k.data.toList n.data.toList b.data.toList d.data.toList).toArray⟩ : ByteArray).data.toList.set p ((⟨(sealG k.data.toList n.data.toList b.data.toList d.data.toList).toArray⟩ : ByteArray).data.toList.getD p 0 ^^^ 4)).toArray⟩ : ByteArray).size = d.size + 16 := by
        show (List.set _ _ _).length = _
        rw [List.length_set, ← Lib.size_eq]; exact hz
      rw [openO, if_pos rfl, if_pos ⟨hk, hn⟩, if_neg (by omega), tagOkG_set _ _ _ _ p _ (by exact h1) (by exact h2) (flip4_ne _) (tagOkG_seal _ _ _ _), if_neg (by decide)]
  · have hz : (⟨(sealS k.data.toList n.data.toList b.data.toList d.data.toList).toArray⟩ : ByteArray).size = d.size + 16 := by show (sealS _ _ _ _).length = _; rw [sealS_length, ← Lib.size_eq]
    refine ⟨⟨(sealS k.data.toList n.data.toList b.data.toList d.data.toList).toArray⟩, hz, by rw [sealO, if_neg (by decide), if_pos rfl, if_pos ⟨hk, hn⟩], ?_, ?_, fun p h1 h2 => ?_⟩
    · rw [openO, if_neg (by decide), if_pos rfl, if_pos ⟨hk, hn⟩, if_neg (by omega), tagOkS_seal, openS_seal, if_pos rfl]
    · rw [openO, if_pos (by decide), if_neg (by omega)]
    · have hz2 : (⟨((⟨(sealS k.data.toList n.data.toList b.data.toList d.data.toList).toArray⟩ : ByteArray).data.toList.set p ((⟨(sealS k.data.toList n.data.toList b.data.toList d.data.toList).toArray⟩ : ByteArray).data.toList.getD p 0 ^^^ 4)).toArray⟩ : ByteArray).size = d.size + 16 := by
        show (List.set _ _ _).length = _
        rw [List.length_set, ← Lib.size_eq]; exact hz
      rw [openO, if_neg (by decide), if_pos rfl, if_pos ⟨hk, hn⟩, if_neg (by omega), tagOkS_set _ _ _ _ p _ (by exact h1) (by exact h2) (flip4_ne _) (tagOkS_seal _ _ _ _), if_neg (by decide)]
set_option maxHeartbeats 4000000 in
theorem sealBackG (k n b d : ByteArray) (a : Int) (w : World) (hT : TabQ w) :
    Calls Tryd.prog 4 #[.agg #[.string k, .string n, .string b, .string d], .int .i64 a, .bool false] w fun e w' => e = .returned (.bool true) ∧ Below w.heap.size w w' := by
  have hb0 := below_new w (.cells (jobC k n b d) 29)
  have HG0 := Lib.hid (blk_new w (.cells (jobC k n b d) 29))
  have HT := Lib.hid (hT.step hb0)
  have HF := Lib.hid (few_any k n b d)
  have HIj : Hid ((Tryd.prog.info? 29).map (·.size) = some (jobC k n b d).size) := Lib.hid (by kernel_rfl)
  have HSz : Hid (∀ W, Calls Tryd.prog 9 #[.int .i64 4865] W fun e w' => e = .returned (.int .i64 16) ∧ W = w') := Lib.hid (fun W => sSize_any 4865 W)
  have HS1 : Hid (∀ W, Calls Tryd.prog 9 #[.int .i64 4865] W fun e w' => e = .returned (.int .i64 16) ∧ W = w') := Lib.hid (fun W => sSize_any 4865 W)
  have HS2 : Hid (∀ W, Calls Tryd.prog 9 #[.int .i64 4867] W fun e w' => e = .returned (.int .i64 32) ∧ W = w') := Lib.hid (fun W => sSize_any 4867 W)
  clear hT
  rw [show (#[.string k, .string n, .string b, .string d] : Array Value) = jobC k n b d from rfl]
  by_cases hgood : fewB b d = true ∧ k.size = 16 ∧ n.size = 12
  · obtain ⟨hfew, hk, hn⟩ := hgood
    obtain ⟨f1, f2⟩ := few_true hfew
    rw [hfew] at HF
    have d1 : ((k.size : Int) != 16) = false := by simp; omega
    have d2 : ((n.size : Int) != 12) = false := by simp; omega
    obtain ⟨r, hrs, hse, hop, hot, hset⟩ := back_facts 4865 k n b d (.inl ⟨rfl, hk⟩) hn
    have HS := Lib.hid (fun (W : World) (hq : TabQ W) => sealO_any 4865 k n b d W (by omega) (by omega) hq)
    rw [hse] at HS
    have HO2 := Lib.hid (fun (W : World) (hq : TabQ W) => openO_any 4865 k n b r W (by omega) (by omega) hq)
    rw [hop] at HO2
    have HO5 := Lib.hid (fun (W : World) (hq : TabQ W) => openO_any (9732 - 4865) k n b r W (by omega) (by omega) hq)
    rw [hot, show (9732 : Int) - 4865 = 4867 by decide] at HO5
    obtain ⟨j, hj, hje, hj1, hj2⟩ := splace_in a
    obtain ⟨p, hp⟩ : ∃ p, p = r.size - 1 - j := ⟨_, rfl⟩
    have hp1 : p < r.size := by omega
    obtain ⟨r2, hr2⟩ : ∃ r2 : ByteArray, r2 = ⟨(r.data.toList.set p (r.data.toList.getD p 0 ^^^ 4)).toArray⟩ := ⟨_, rfl⟩
    have hr2l : r2.data.toList = r.data.toList.set p (r.data.toList.getD p 0 ^^^ 4) := by rw [hr2]
    have hr2s : r2.size = d.size + 16 := by rw [Lib.size_eq, hr2l, List.length_set, ← Lib.size_eq]; exact hrs
    have HO4 := Lib.hid (fun (W : World) (hq : TabQ W) => openO_any 4865 k n b r2 W (by omega) (by omega) hq)
    have h20 := hset p (by omega) hp1
    rw [← hr2] at h20
    rw [h20] at HO4
    unfold ansO at HS HO2 HO4 HO5
    have ed : (d.toList == d.toList) = true := by simp
    have es : ((r.size : Int) != wrap64 ((d.size : Int) + 16)) = false := by rw [IntWalk.wrap64_in _ ⟨by omega, by omega⟩]; simp; omega
    have hw0 : wrap64 (a.tmod 16 + 16) = a.tmod 16 + 16 := IntWalk.wrap64_in _ ⟨by omega, by omega⟩
    have hw1 : (wrap64 (a.tmod 16 + 16)).tmod 16 = (j : Int) := by rw [hw0]; exact hje
    have hw2 : IntKind.i64.wrap (a.tmod 16 + 16) = a.tmod 16 + 16 := IntWalk.i64_in _ (by omega)
    have hw3 : ((r.size : Int) - 1 - (j : Int)).toNat = p := by omega
    have hw4 : (0 : Int) ≤ (r.size : Int) - 1 - (j : Int) := by omega
    have hw5 : (r.size : Int) - 1 - (j : Int) < (r.size : Int) := by omega
    have hw6 : IntKind.i64.wrap ((r.size : Int) - 1) = (r.size : Int) - 1 := IntWalk.i64_in _ (by omega)
    have hw7 : IntKind.i64.wrap ((r.size : Int) - 1 - (j : Int)) = (r.size : Int) - 1 - (j : Int) := IntWalk.i64_in _ (by omega)
    have HRS := Lib.hid hrs; have HR2S := Lib.hid hr2s
    have hrp : 16 ≤ r.size := by omega
    have hrm : r.size ≤ 3000 := by omega
    clear hset h20 hse hop hot hfew hk hn hrs hr2s hp hj1 hj2 f1 f2
    go_enter Tryd.func4, Tryd.ntmps4
    go_wp2_with fail
    obtain ⟨c0, c1, c2, c3⟩ := job_cells HG0.out
    generalize (w.alloc _) = W0 at *
    have q0 := cell_regrown c0; have q1 := cell_regrown c1
    refine wp_region_reads (by kernel_rfl) (by kernel_rfl) ?_
    refine arr_quiet_load rfl 29 (.tmp 3) rfl ⟨w.heap.size, 0, none⟩ rfl (jobC k n b d) (arr_row_regrown 29 w.heap.size 29 _ (0, 0) _ HG0.out Tryd.underlying29 rfl HIj.out) ?_
    simp only [Act.put, List.setIfInBounds_toArray, List.set_cons_succ, List.set_cons_zero]
    repeat (first | go_big_quiet_step ((first | with_reducible exact Calls.regrown_of (HF.out _) | with_reducible exact Calls.regrown_of (below_eq (HSz.out _)))) | quiet_step ((first | with_reducible exact Calls.regrown_of (HF.out _) | with_reducible exact Calls.regrown_of (below_eq (HSz.out _)))))
    refine wpQuiet_nil ?_
    intro W1 hb1
    have HG1 := Lib.hid (blk_below hb1 (blk_lt HG0.out) HG0.out)
    have HT1 := Lib.hid (HT.out.step hb1)
    have hb2 := hb0.trans (hb1.mono hb0.size)
    clear HF HG0 HT hb0 hb1 c0 c1 c2 c3 q0 q1 HSz
    clear HS1 HS2
    obtain ⟨c0, c1, c2, c3⟩ := job_cells HG1.out
    go_wp2_with fail
    refine (HS.out W1 HT1.out).mono ?_
    rintro e W2 ⟨rfl, hb3⟩
    have HG2 := Lib.hid (blk_below hb3 (blk_lt HG1.out) HG1.out)
    have HT2 := Lib.hid (HT1.out.step hb3)
    have hb4 := hb2.trans (hb3.mono hb2.size)
    clear HS c0 c1 c2 c3 HG1 HT1 hb2 hb3
    obtain ⟨c0, c1, c2, c3⟩ := job_cells HG2.out
    go_wp2_with fail
    refine (HO2.out W2 HT2.out).mono ?_
    rintro e W3 ⟨rfl, hb5⟩
    have HG3 := Lib.hid (blk_below hb5 (blk_lt HG2.out) HG2.out)
    have HT3 := Lib.hid (HT2.out.step hb5)
    have hb6 := hb4.trans (hb5.mono hb4.size)
    clear HO2 c0 c1 c2 c3 HG2 HT2 hb4 hb5
    obtain ⟨c0, c1, c2, c3⟩ := job_cells HG3.out
    obtain ⟨cap, hcv, hown, hbo⟩ := run_convert_string_bytes_at r W3
    have HG4 := Lib.hid (blk_below hbo (blk_lt HG3.out) HG3.out)
    have HT4 := Lib.hid (HT3.out.step hbo)
    have hb7 := hb6.trans (hbo.mono hb6.size)
    have hrl2 : r.data.toList.length = r.size := (Lib.size_eq r).symm
    have cp := sown_at hown p (by rw [hrl2]; exact hp1)
    have hpl : p < (Lib.byteCells r.data.toList).length := by rw [Lib.byteCells_length, hrl2]; exact hp1
    have fp := (hown.room p (Nat.lt_of_lt_of_le hpl hown.le)).2
    have HX := Lib.hid (au8x (r.data.toList.getD p 0) 4)
    have hput := hown.put p hpl (.int .u8 ((r.data.toList.getD p 0 ^^^ 4).toNat : Int))
    rw [Lib.byteCells, ← List.map_set (f := fun x : UInt8 => Value.int .u8 (x.toNat : Int)), ← hr2l] at hput
    have hsz6 := hb6.size
    have hcv2 := run_string_at ((Lib.bytesWorld W3 5 r).setCell ⟨W3.heap.size, p, none⟩ (.int .u8 ((r.data.toList.getD p 0 ^^^ 4).toNat : Int))) W3.heap.size 0 cap r.size r2.data.toList (by rw [← Lib.size_eq, HR2S.out, HRS.out]) (fun i x hx => by
      rw [Nat.zero_add]
      exact hput.cells i _ (by simp [hx]))
    have hb8 : Below w.heap.size w ((Lib.bytesWorld W3 5 r).setCell ⟨W3.heap.size, p, none⟩ (.int .u8 ((r.data.toList.getD p 0 ^^^ 4).toNat : Int))) := hb7.setCell (by simpa using hsz6) _
    have hbs : Below W3.heap.size W3 ((Lib.bytesWorld W3 5 r).setCell ⟨W3.heap.size, p, none⟩ (.int .u8 ((r.data.toList.getD p 0 ^^^ 4).toNat : Int))) := hbo.setCell (by simp) _
    have HG5 := Lib.hid (blk_below hbs (blk_lt HG3.out) HG3.out)
    have HT5 := Lib.hid (HT3.out.step hbs)
    have HR2 := Lib.hid (show (⟨r2.data.toList.toArray⟩ : ByteArray) = r2 from rfl)
    rw [HR2.out] at hcv2
    have HX2 := HX.out
    rw [show (((4 : UInt8).toNat : Nat) : Int) = 4 from rfl] at HX2
    have HG6 := job_cells HG5.out
    obtain ⟨g0, g1, g2, g3⟩ := HG6
    clear hown hbo HG4 HT4 hb7 hput hbs HG3 HT3 hb6 hr2l hr2 hrl2 hpl
    generalize (r.data.toList.getD p 0 ^^^ 4).toNat = xx at *
    generalize (r.data.toList.getD p 0).toNat = x0 at *
    go_wp2_with fail
    clear c0 c1 c2 c3 cp fp hcv hcv2
    generalize World.setCell _ _ _ = W5 at *
    refine (HO4.out W5 HT5.out).mono ?_
    rintro e W6 ⟨rfl, hb9⟩
    have HT6 := Lib.hid (HT5.out.step hb9)
    have HG7 := Lib.hid (blk_below hb9 (blk_lt HG5.out) HG5.out)
    have hb10 := hb8.trans (hb9.mono hb8.size)
    clear HO4 g0 g1 g2 g3 hb9 HG5 hb8
    obtain ⟨c0, c1, c2, c3⟩ := job_cells HG7.out
    go_wp2_with fail
    refine (HO5.out W6 HT6.out).mono ?_
    rintro e W7 ⟨rfl, hb11⟩
    have HT7 := Lib.hid (HT6.out.step hb11)
    have hb12 := hb10.trans (hb11.mono hb10.size)
    clear HO5 c0 c1 c2 c3 hb10 hb11 HG7 HT6
    go_wp2_with fail
    refine (swake_any W7 HT7.out).mono ?_
    rintro e W8 ⟨rfl, hb13⟩
    go_wp2_with fail
    go_ret
    exact ⟨rfl, hb12.trans (hb13.mono hb12.size)⟩
  · cases hfew : fewB b d with
    | false =>
      rw [hfew] at HF
      clear hgood hfew
      go_enter Tryd.func4, Tryd.ntmps4
      go_wp2_with fail
      obtain ⟨c0, c1, c2, c3⟩ := job_cells HG0.out
      generalize (w.alloc _) = W0 at *
      have q0 := cell_regrown c0; have q1 := cell_regrown c1
      refine wp_region_reads (by kernel_rfl) (by kernel_rfl) ?_
      refine arr_quiet_load rfl 29 (.tmp 3) rfl ⟨w.heap.size, 0, none⟩ rfl (jobC k n b d) (arr_row_regrown 29 w.heap.size 29 _ (0, 0) _ HG0.out Tryd.underlying29 rfl HIj.out) ?_
      simp only [Act.put, List.setIfInBounds_toArray, List.set_cons_succ, List.set_cons_zero]
      repeat (first | go_big_quiet_step ((first | with_reducible exact Calls.regrown_of (HF.out _) | with_reducible exact Calls.regrown_of (below_eq (HSz.out _)))) | quiet_step ((first | with_reducible exact Calls.regrown_of (HF.out _) | with_reducible exact Calls.regrown_of (below_eq (HSz.out _)))))
      refine wpQuiet_nil ?_
      intro W1 hb1
      have HG1 := Lib.hid (blk_below hb1 (blk_lt HG0.out) HG0.out)
      have HT1 := Lib.hid (HT.out.step hb1)
      have hb2 := hb0.trans (hb1.mono hb0.size)
      clear HF HG0 HT hb0 hb1 c0 c1 c2 c3 q0 q1 HSz
      obtain ⟨c0, c1, c2, c3⟩ := job_cells HG1.out
      go_wp2_with fail
      refine (HS1.out W1).mono ?_
      rintro e W ⟨rfl, rfl⟩
      go_wp2_with fail
      refine (HS2.out W1).mono ?_
      rintro e W ⟨rfl, rfl⟩
      go_wp2_with fail
      refine (swake_any W1 HT1.out).mono ?_
      rintro e W2 ⟨rfl, hb3⟩
      go_wp2_with fail
      go_ret
      exact ⟨rfl, hb2.trans (hb3.mono hb2.size)⟩
    | true =>
      rw [hfew] at HF
      by_cases hk : k.size = 16
      · have hn : ¬ n.size = 12 := fun h => hgood ⟨hfew, hk, h⟩
        have d1 : ((k.size : Int) != 16) = false := by simp; omega
        have d2 : ((n.size : Int) != 12) = true := by simp; omega
        clear hgood hfew hk hn
        go_enter Tryd.func4, Tryd.ntmps4
        go_wp2_with fail
        obtain ⟨c0, c1, c2, c3⟩ := job_cells HG0.out
        generalize (w.alloc _) = W0 at *
        have q0 := cell_regrown c0; have q1 := cell_regrown c1
        refine wp_region_reads (by kernel_rfl) (by kernel_rfl) ?_
        refine arr_quiet_load rfl 29 (.tmp 3) rfl ⟨w.heap.size, 0, none⟩ rfl (jobC k n b d) (arr_row_regrown 29 w.heap.size 29 _ (0, 0) _ HG0.out Tryd.underlying29 rfl HIj.out) ?_
        simp only [Act.put, List.setIfInBounds_toArray, List.set_cons_succ, List.set_cons_zero]
        repeat (first | go_big_quiet_step ((first | with_reducible exact Calls.regrown_of (HF.out _) | with_reducible exact Calls.regrown_of (below_eq (HSz.out _)))) | quiet_step ((first | with_reducible exact Calls.regrown_of (HF.out _) | with_reducible exact Calls.regrown_of (below_eq (HSz.out _)))))
        refine wpQuiet_nil ?_
        intro W1 hb1
        have HG1 := Lib.hid (blk_below hb1 (blk_lt HG0.out) HG0.out)
        have HT1 := Lib.hid (HT.out.step hb1)
        have hb2 := hb0.trans (hb1.mono hb0.size)
        clear HF HG0 HT hb0 hb1 c0 c1 c2 c3 q0 q1 HSz
        obtain ⟨c0, c1, c2, c3⟩ := job_cells HG1.out
        go_wp2_with fail
        refine (HS1.out W1).mono ?_
        rintro e W ⟨rfl, rfl⟩
        go_wp2_with fail
        refine (HS2.out W1).mono ?_
        rintro e W ⟨rfl, rfl⟩
        go_wp2_with fail
        refine (swake_any W1 HT1.out).mono ?_
        rintro e W2 ⟨rfl, hb3⟩
        go_wp2_with fail
        go_ret
        exact ⟨rfl, hb2.trans (hb3.mono hb2.size)⟩
      · have d1 : ((k.size : Int) != 16) = true := by simp; omega
        clear hgood hfew hk
        go_enter Tryd.func4, Tryd.ntmps4
        go_wp2_with fail
        obtain ⟨c0, c1, c2, c3⟩ := job_cells HG0.out
        generalize (w.alloc _) = W0 at *
        have q0 := cell_regrown c0; have q1 := cell_regrown c1
        refine wp_region_reads (by kernel_rfl) (by kernel_rfl) ?_
        refine arr_quiet_load rfl 29 (.tmp 3) rfl ⟨w.heap.size, 0, none⟩ rfl (jobC k n b d) (arr_row_regrown 29 w.heap.size 29 _ (0, 0) _ HG0.out Tryd.underlying29 rfl HIj.out) ?_
        simp only [Act.put, List.setIfInBounds_toArray, List.set_cons_succ, List.set_cons_zero]
        repeat (first | go_big_quiet_step ((first | with_reducible exact Calls.regrown_of (HF.out _) | with_reducible exact Calls.regrown_of (below_eq (HSz.out _)))) | quiet_step ((first | with_reducible exact Calls.regrown_of (HF.out _) | with_reducible exact Calls.regrown_of (below_eq (HSz.out _)))))
        refine wpQuiet_nil ?_
        intro W1 hb1
        have HG1 := Lib.hid (blk_below hb1 (blk_lt HG0.out) HG0.out)
        have HT1 := Lib.hid (HT.out.step hb1)
        have hb2 := hb0.trans (hb1.mono hb0.size)
        clear HF HG0 HT hb0 hb1 c0 c1 c2 c3 q0 q1 HSz
        obtain ⟨c0, c1, c2, c3⟩ := job_cells HG1.out
        go_wp2_with fail
        refine (HS1.out W1).mono ?_
        rintro e W ⟨rfl, rfl⟩
        go_wp2_with fail
        refine (HS2.out W1).mono ?_
        rintro e W ⟨rfl, rfl⟩
        go_wp2_with fail
        refine (swake_any W1 HT1.out).mono ?_
        rintro e W2 ⟨rfl, hb3⟩
        go_wp2_with fail
        go_ret
        exact ⟨rfl, hb2.trans (hb3.mono hb2.size)⟩
set_option maxHeartbeats 4000000 in
theorem sealBackC (k n b d : ByteArray) (a : Int) (w : World) (hT : TabQ w) :
    Calls Tryd.prog 4 #[.agg #[.string k, .string n, .string b, .string d], .int .i64 a, .bool true] w fun e w' => e = .returned (.bool true) ∧ Below w.heap.size w w' := by
  have hb0 := below_new w (.cells (jobC k n b d) 29)
  have HG0 := Lib.hid (blk_new w (.cells (jobC k n b d) 29))
  have HT := Lib.hid (hT.step hb0)
  have HF := Lib.hid (few_any k n b d)
  have HIj : Hid ((Tryd.prog.info? 29).map (·.size) = some (jobC k n b d).size) := Lib.hid (by kernel_rfl)
  have HSz : Hid (∀ W, Calls Tryd.prog 9 #[.int .i64 4867] W fun e w' => e = .returned (.int .i64 32) ∧ W = w') := Lib.hid (fun W => sSize_any 4867 W)
  have HS1 : Hid (∀ W, Calls Tryd.prog 9 #[.int .i64 4865] W fun e w' => e = .returned (.int .i64 16) ∧ W = w') := Lib.hid (fun W => sSize_any 4865 W)
  have HS2 : Hid (∀ W, Calls Tryd.prog 9 #[.int .i64 4867] W fun e w' => e = .returned (.int .i64 32) ∧ W = w') := Lib.hid (fun W => sSize_any 4867 W)
  clear hT
  rw [show (#[.string k, .string n, .string b, .string d] : Array Value) = jobC k n b d from rfl]
  by_cases hgood : fewB b d = true ∧ k.size = 32 ∧ n.size = 12
  · obtain ⟨hfew, hk, hn⟩ := hgood
    obtain ⟨f1, f2⟩ := few_true hfew
    rw [hfew] at HF
    have d1 : ((k.size : Int) != 32) = false := by simp; omega
    have d2 : ((n.size : Int) != 12) = false := by simp; omega
    obtain ⟨r, hrs, hse, hop, hot, hset⟩ := back_facts 4867 k n b d (.inr ⟨rfl, hk⟩) hn
    have HS := Lib.hid (fun (W : World) (hq : TabQ W) => sealO_any 4867 k n b d W (by omega) (by omega) hq)
    rw [hse] at HS
    have HO2 := Lib.hid (fun (W : World) (hq : TabQ W) => openO_any 4867 k n b r W (by omega) (by omega) hq)
    rw [hop] at HO2
    have HO5 := Lib.hid (fun (W : World) (hq : TabQ W) => openO_any (9732 - 4867) k n b r W (by omega) (by omega) hq)
    rw [hot, show (9732 : Int) - 4867 = 4865 by decide] at HO5
    obtain ⟨j, hj, hje, hj1, hj2⟩ := splace_in a
    obtain ⟨p, hp⟩ : ∃ p, p = r.size - 1 - j := ⟨_, rfl⟩
    have hp1 : p < r.size := by omega
    obtain ⟨r2, hr2⟩ : ∃ r2 : ByteArray, r2 = ⟨(r.data.toList.set p (r.data.toList.getD p 0 ^^^ 4)).toArray⟩ := ⟨_, rfl⟩
    have hr2l : r2.data.toList = r.data.toList.set p (r.data.toList.getD p 0 ^^^ 4) := by rw [hr2]
    have hr2s : r2.size = d.size + 16 := by rw [Lib.size_eq, hr2l, List.length_set, ← Lib.size_eq]; exact hrs
    have HO4 := Lib.hid (fun (W : World) (hq : TabQ W) => openO_any 4867 k n b r2 W (by omega) (by omega) hq)
    have h20 := hset p (by omega) hp1
    rw [← hr2] at h20
    rw [h20] at HO4
    unfold ansO at HS HO2 HO4 HO5
    have ed : (d.toList == d.toList) = true := by simp
    have es : ((r.size : Int) != wrap64 ((d.size : Int) + 16)) = false := by rw [IntWalk.wrap64_in _ ⟨by omega, by omega⟩]; simp; omega
    have hw0 : wrap64 (a.tmod 16 + 16) = a.tmod 16 + 16 := IntWalk.wrap64_in _ ⟨by omega, by omega⟩
    have hw1 : (wrap64 (a.tmod 16 + 16)).tmod 16 = (j : Int) := by rw [hw0]; exact hje
    have hw2 : IntKind.i64.wrap (a.tmod 16 + 16) = a.tmod 16 + 16 := IntWalk.i64_in _ (by omega)
    have hw3 : ((r.size : Int) - 1 - (j : Int)).toNat = p := by omega
    have hw4 : (0 : Int) ≤ (r.size : Int) - 1 - (j : Int) := by omega
    have hw5 : (r.size : Int) - 1 - (j : Int) < (r.size : Int) := by omega
    have hw6 : IntKind.i64.wrap ((r.size : Int) - 1) = (r.size : Int) - 1 := IntWalk.i64_in _ (by omega)
    have hw7 : IntKind.i64.wrap ((r.size : Int) - 1 - (j : Int)) = (r.size : Int) - 1 - (j : Int) := IntWalk.i64_in _ (by omega)
    have HRS := Lib.hid hrs; have HR2S := Lib.hid hr2s
    have hrp : 16 ≤ r.size := by omega
    have hrm : r.size ≤ 3000 := by omega
    clear hset h20 hse hop hot hfew hk hn hrs hr2s hp hj1 hj2 f1 f2
    go_enter Tryd.func4, Tryd.ntmps4
    go_wp2_with fail
    obtain ⟨c0, c1, c2, c3⟩ := job_cells HG0.out
    generalize (w.alloc _) = W0 at *
    have q0 := cell_regrown c0; have q1 := cell_regrown c1
    refine wp_region_reads (by kernel_rfl) (by kernel_rfl) ?_
    refine arr_quiet_load rfl 29 (.tmp 3) rfl ⟨w.heap.size, 0, none⟩ rfl (jobC k n b d) (arr_row_regrown 29 w.heap.size 29 _ (0, 0) _ HG0.out Tryd.underlying29 rfl HIj.out) ?_
    simp only [Act.put, List.setIfInBounds_toArray, List.set_cons_succ, List.set_cons_zero]
    repeat (first | go_big_quiet_step ((first | with_reducible exact Calls.regrown_of (HF.out _) | with_reducible exact Calls.regrown_of (below_eq (HSz.out _)))) | quiet_step ((first | with_reducible exact Calls.regrown_of (HF.out _) | with_reducible exact Calls.regrown_of (below_eq (HSz.out _)))))
    refine wpQuiet_nil ?_
    intro W1 hb1
    have HG1 := Lib.hid (blk_below hb1 (blk_lt HG0.out) HG0.out)
    have HT1 := Lib.hid (HT.out.step hb1)
    have hb2 := hb0.trans (hb1.mono hb0.size)
    clear HF HG0 HT hb0 hb1 c0 c1 c2 c3 q0 q1 HSz
    clear HS1 HS2
    obtain ⟨c0, c1, c2, c3⟩ := job_cells HG1.out
    go_wp2_with fail
    refine (HS.out W1 HT1.out).mono ?_
    rintro e W2 ⟨rfl, hb3⟩
    have HG2 := Lib.hid (blk_below hb3 (blk_lt HG1.out) HG1.out)
    have HT2 := Lib.hid (HT1.out.step hb3)
    have hb4 := hb2.trans (hb3.mono hb2.size)
    clear HS c0 c1 c2 c3 HG1 HT1 hb2 hb3
    obtain ⟨c0, c1, c2, c3⟩ := job_cells HG2.out
    go_wp2_with fail
    refine (HO2.out W2 HT2.out).mono ?_
    rintro e W3 ⟨rfl, hb5⟩
    have HG3 := Lib.hid (blk_below hb5 (blk_lt HG2.out) HG2.out)
    have HT3 := Lib.hid (HT2.out.step hb5)
    have hb6 := hb4.trans (hb5.mono hb4.size)
    clear HO2 c0 c1 c2 c3 HG2 HT2 hb4 hb5
    obtain ⟨c0, c1, c2, c3⟩ := job_cells HG3.out
    obtain ⟨cap, hcv, hown, hbo⟩ := run_convert_string_bytes_at r W3
    have HG4 := Lib.hid (blk_below hbo (blk_lt HG3.out) HG3.out)
    have HT4 := Lib.hid (HT3.out.step hbo)
    have hb7 := hb6.trans (hbo.mono hb6.size)
    have hrl2 : r.data.toList.length = r.size := (Lib.size_eq r).symm
    have cp := sown_at hown p (by rw [hrl2]; exact hp1)
    have hpl : p < (Lib.byteCells r.data.toList).length := by rw [Lib.byteCells_length, hrl2]; exact hp1
    have fp := (hown.room p (Nat.lt_of_lt_of_le hpl hown.le)).2
    have HX := Lib.hid (au8x (r.data.toList.getD p 0) 4)
    have hput := hown.put p hpl (.int .u8 ((r.data.toList.getD p 0 ^^^ 4).toNat : Int))
    rw [Lib.byteCells, ← List.map_set (f := fun x : UInt8 => Value.int .u8 (x.toNat : Int)), ← hr2l] at hput
    have hsz6 := hb6.size
    have hcv2 := run_string_at ((Lib.bytesWorld W3 5 r).setCell ⟨W3.heap.size, p, none⟩ (.int .u8 ((r.data.toList.getD p 0 ^^^ 4).toNat : Int))) W3.heap.size 0 cap r.size r2.data.toList (by rw [← Lib.size_eq, HR2S.out, HRS.out]) (fun i x hx => by
      rw [Nat.zero_add]
      exact hput.cells i _ (by simp [hx]))
    have hb8 : Below w.heap.size w ((Lib.bytesWorld W3 5 r).setCell ⟨W3.heap.size, p, none⟩ (.int .u8 ((r.data.toList.getD p 0 ^^^ 4).toNat : Int))) := hb7.setCell (by simpa using hsz6) _
    have hbs : Below W3.heap.size W3 ((Lib.bytesWorld W3 5 r).setCell ⟨W3.heap.size, p, none⟩ (.int .u8 ((r.data.toList.getD p 0 ^^^ 4).toNat : Int))) := hbo.setCell (by simp) _
    have HG5 := Lib.hid (blk_below hbs (blk_lt HG3.out) HG3.out)
    have HT5 := Lib.hid (HT3.out.step hbs)
    have HR2 := Lib.hid (show (⟨r2.data.toList.toArray⟩ : ByteArray) = r2 from rfl)
    rw [HR2.out] at hcv2
    have HX2 := HX.out
    rw [show (((4 : UInt8).toNat : Nat) : Int) = 4 from rfl] at HX2
    have HG6 := job_cells HG5.out
    obtain ⟨g0, g1, g2, g3⟩ := HG6
    clear hown hbo HG4 HT4 hb7 hput hbs HG3 HT3 hb6 hr2l hr2 hrl2 hpl
    generalize (r.data.toList.getD p 0 ^^^ 4).toNat = xx at *
    generalize (r.data.toList.getD p 0).toNat = x0 at *
    go_wp2_with fail
    clear c0 c1 c2 c3 cp fp hcv hcv2
    generalize World.setCell _ _ _ = W5 at *
    refine (HO4.out W5 HT5.out).mono ?_
    rintro e W6 ⟨rfl, hb9⟩
    have HT6 := Lib.hid (HT5.out.step hb9)
    have HG7 := Lib.hid (blk_below hb9 (blk_lt HG5.out) HG5.out)
    have hb10 := hb8.trans (hb9.mono hb8.size)
    clear HO4 g0 g1 g2 g3 hb9 HG5 hb8
    obtain ⟨c0, c1, c2, c3⟩ := job_cells HG7.out
    go_wp2_with fail
    refine (HO5.out W6 HT6.out).mono ?_
    rintro e W7 ⟨rfl, hb11⟩
    have HT7 := Lib.hid (HT6.out.step hb11)
    have hb12 := hb10.trans (hb11.mono hb10.size)
    clear HO5 c0 c1 c2 c3 hb10 hb11 HG7 HT6
    go_wp2_with fail
    refine (swake_any W7 HT7.out).mono ?_
    rintro e W8 ⟨rfl, hb13⟩
    go_wp2_with fail
    go_ret
    exact ⟨rfl, hb12.trans (hb13.mono hb12.size)⟩
  · cases hfew : fewB b d with
    | false =>
      rw [hfew] at HF
      clear hgood hfew
      go_enter Tryd.func4, Tryd.ntmps4
      go_wp2_with fail
      obtain ⟨c0, c1, c2, c3⟩ := job_cells HG0.out
      generalize (w.alloc _) = W0 at *
      have q0 := cell_regrown c0; have q1 := cell_regrown c1
      refine wp_region_reads (by kernel_rfl) (by kernel_rfl) ?_
      refine arr_quiet_load rfl 29 (.tmp 3) rfl ⟨w.heap.size, 0, none⟩ rfl (jobC k n b d) (arr_row_regrown 29 w.heap.size 29 _ (0, 0) _ HG0.out Tryd.underlying29 rfl HIj.out) ?_
      simp only [Act.put, List.setIfInBounds_toArray, List.set_cons_succ, List.set_cons_zero]
      repeat (first | go_big_quiet_step ((first | with_reducible exact Calls.regrown_of (HF.out _) | with_reducible exact Calls.regrown_of (below_eq (HSz.out _)))) | quiet_step ((first | with_reducible exact Calls.regrown_of (HF.out _) | with_reducible exact Calls.regrown_of (below_eq (HSz.out _)))))
      refine wpQuiet_nil ?_
      intro W1 hb1
      have HG1 := Lib.hid (blk_below hb1 (blk_lt HG0.out) HG0.out)
      have HT1 := Lib.hid (HT.out.step hb1)
      have hb2 := hb0.trans (hb1.mono hb0.size)
      clear HF HG0 HT hb0 hb1 c0 c1 c2 c3 q0 q1 HSz
      obtain ⟨c0, c1, c2, c3⟩ := job_cells HG1.out
      go_wp2_with fail
      refine (HS1.out W1).mono ?_
      rintro e W ⟨rfl, rfl⟩
      go_wp2_with fail
      refine (HS2.out W1).mono ?_
      rintro e W ⟨rfl, rfl⟩
      go_wp2_with fail
      refine (swake_any W1 HT1.out).mono ?_
      rintro e W2 ⟨rfl, hb3⟩
      go_wp2_with fail
      go_ret
      exact ⟨rfl, hb2.trans (hb3.mono hb2.size)⟩
    | true =>
      rw [hfew] at HF
      by_cases hk : k.size = 32
      · have hn : ¬ n.size = 12 := fun h => hgood ⟨hfew, hk, h⟩
        have d1 : ((k.size : Int) != 32) = false := by simp; omega
        have d2 : ((n.size : Int) != 12) = true := by simp; omega
        clear hgood hfew hk hn
        go_enter Tryd.func4, Tryd.ntmps4
        go_wp2_with fail
        obtain ⟨c0, c1, c2, c3⟩ := job_cells HG0.out
        generalize (w.alloc _) = W0 at *
        have q0 := cell_regrown c0; have q1 := cell_regrown c1
        refine wp_region_reads (by kernel_rfl) (by kernel_rfl) ?_
        refine arr_quiet_load rfl 29 (.tmp 3) rfl ⟨w.heap.size, 0, none⟩ rfl (jobC k n b d) (arr_row_regrown 29 w.heap.size 29 _ (0, 0) _ HG0.out Tryd.underlying29 rfl HIj.out) ?_
        simp only [Act.put, List.setIfInBounds_toArray, List.set_cons_succ, List.set_cons_zero]
        repeat (first | go_big_quiet_step ((first | with_reducible exact Calls.regrown_of (HF.out _) | with_reducible exact Calls.regrown_of (below_eq (HSz.out _)))) | quiet_step ((first | with_reducible exact Calls.regrown_of (HF.out _) | with_reducible exact Calls.regrown_of (below_eq (HSz.out _)))))
        refine wpQuiet_nil ?_
        intro W1 hb1
        have HG1 := Lib.hid (blk_below hb1 (blk_lt HG0.out) HG0.out)
        have HT1 := Lib.hid (HT.out.step hb1)
        have hb2 := hb0.trans (hb1.mono hb0.size)
        clear HF HG0 HT hb0 hb1 c0 c1 c2 c3 q0 q1 HSz
        obtain ⟨c0, c1, c2, c3⟩ := job_cells HG1.out
        go_wp2_with fail
        refine (HS1.out W1).mono ?_
        rintro e W ⟨rfl, rfl⟩
        go_wp2_with fail
        refine (HS2.out W1).mono ?_
        rintro e W ⟨rfl, rfl⟩
        go_wp2_with fail
        refine (swake_any W1 HT1.out).mono ?_
        rintro e W2 ⟨rfl, hb3⟩
        go_wp2_with fail
        go_ret
        exact ⟨rfl, hb2.trans (hb3.mono hb2.size)⟩
      · have d1 : ((k.size : Int) != 32) = true := by simp; omega
        clear hgood hfew hk
        go_enter Tryd.func4, Tryd.ntmps4
        go_wp2_with fail
        obtain ⟨c0, c1, c2, c3⟩ := job_cells HG0.out
        generalize (w.alloc _) = W0 at *
        have q0 := cell_regrown c0; have q1 := cell_regrown c1
        refine wp_region_reads (by kernel_rfl) (by kernel_rfl) ?_
        refine arr_quiet_load rfl 29 (.tmp 3) rfl ⟨w.heap.size, 0, none⟩ rfl (jobC k n b d) (arr_row_regrown 29 w.heap.size 29 _ (0, 0) _ HG0.out Tryd.underlying29 rfl HIj.out) ?_
        simp only [Act.put, List.setIfInBounds_toArray, List.set_cons_succ, List.set_cons_zero]
        repeat (first | go_big_quiet_step ((first | with_reducible exact Calls.regrown_of (HF.out _) | with_reducible exact Calls.regrown_of (below_eq (HSz.out _)))) | quiet_step ((first | with_reducible exact Calls.regrown_of (HF.out _) | with_reducible exact Calls.regrown_of (below_eq (HSz.out _)))))
        refine wpQuiet_nil ?_
        intro W1 hb1
        have HG1 := Lib.hid (blk_below hb1 (blk_lt HG0.out) HG0.out)
        have HT1 := Lib.hid (HT.out.step hb1)
        have hb2 := hb0.trans (hb1.mono hb0.size)
        clear HF HG0 HT hb0 hb1 c0 c1 c2 c3 q0 q1 HSz
        obtain ⟨c0, c1, c2, c3⟩ := job_cells HG1.out
        go_wp2_with fail
        refine (HS1.out W1).mono ?_
        rintro e W ⟨rfl, rfl⟩
        go_wp2_with fail
        refine (HS2.out W1).mono ?_
        rintro e W ⟨rfl, rfl⟩
        go_wp2_with fail
        refine (swake_any W1 HT1.out).mono ?_
        rintro e W2 ⟨rfl, hb3⟩
        go_wp2_with fail
        go_ret
        exact ⟨rfl, hb2.trans (hb3.mono hb2.size)⟩
theorem sealBack_any (k n b d : ByteArray) (a : Int) (c : Bool) (w : World) (_ : k.size ≤ maxLen) (_ : n.size ≤ maxLen) (_ : b.size ≤ maxLen) (_ : d.size ≤ maxLen) (_ : (Lit.int .i64 a).wf = true) (hT : TabQ w) :
    Calls Tryd.prog 4 #[.agg #[.string k, .string n, .string b, .string d], .int .i64 a, .bool c] w fun e w' => e = .returned (.bool true) ∧ Below w.heap.size w w' := by
  cases c
  · exact sealBackG k n b d a w hT
  · exact sealBackC k n b d a w hT

theorem sealBack_lifted (os : Os) (started : os.Started) (H : Type) (enc : TypeId × Value → H) :
    ReturnsInHanded {} Tryd.checked os 4 .any (fun w args => (Rows.sealBackSpec.pre enc Tryd.prog Tryd.f4 [] false w args ∧ laidMetH Tryd.prog laid1 w) ∧ sizedMet enc Tryd.prog Tryd.f4 (OpenSpec.ofChange Rows.sealBackSpec) false w args)
      (Rows.sealBackSpec.post enc Tryd.prog Tryd.f4 false true false false) := by
  refine returnsInHanded_of_change_and (C := Tryd.checked) (X := fun w _ => laidMetH Tryd.prog laid1 w) (fun _ _ _ hh h => h.of_heap hh) own1 started (by kernel_rfl) Tryd.func4
    (ChangeSpec.witness_shaped (enc := enc) (C := Tryd.checked) (os := os) (X := fun w _ => laidMetH Tryd.prog laid1 w) false (World.doorLaid Tryd.prog 400 os) #[.agg #[.string ⟨#[]⟩, .string ⟨#[]⟩, .string ⟨#[]⟩, .string ⟨#[]⟩], .int .i64 0, .bool false] 8 rfl (World.shaped_of_RefB (by kernel_rfl) (by kernel_rfl)) (by kernel_rfl) (by kernel_rfl) (by kernel_rfl) (door_met1 os _)) ?_
  intro W base args ds gs before hval0 hW _ _ hL _
  have hval : ∀ (j : Nat) t v, Tryd.f4.params[j]? = some t → args[j]? = some v → Value.okWide Tryd.prog W .any base t v := hval0
  have hW' := hW
  obtain ⟨p, q, hA0, hV, rfl, hfz, hnd⟩ := hW
  have hA : DataW.TrodAll enc Tryd.prog W 0 (fun _ => true) true Tryd.f4.params.toList args.toList ds p := hA0
  rw [Tryd.params4] at hA hval
  obtain ⟨v0, v1, v2, d0, d1, d2, p0, p1, p2, rfl, rfl, rfl, h0, h1, h2⟩ := trodAll_three hA
  obtain ⟨rfl, rfl⟩ := trodVars_none hV
  obtain ⟨c0, c1, c2, c3, y0, y1, y2, y3, m, rfl, rfl, rfl, hy0, hy1, hy2, hy3⟩ := Joins.open_agg4 Tryd.underlying29 (by kernel_rfl) (by kernel_rfl) (hval 0 29 v0 rfl rfl) h0
  obtain ⟨sk, e0, rfl, wk⟩ := DataW.trod_string Tryd.underlying9 hy0
  obtain ⟨sn, e1, rfl, wn⟩ := DataW.trod_string Tryd.underlying9 hy1
  obtain ⟨sb, e2, rfl, wb⟩ := DataW.trod_string Tryd.underlying9 hy2
  obtain ⟨sd, e3, rfl, wd'⟩ := DataW.trod_string Tryd.underlying9 hy3
  simp at e0 e1 e2 e3
  subst e0 e1 e2 e3
  obtain ⟨s1, rfl, rfl, rfl, w1⟩ := open_int Tryd.underlying3 (hval 1 3 v1 rfl rfl) h1
  obtain ⟨s2, rfl, rfl, rfl⟩ := open_bool Tryd.underlying4 (hval 2 4 v2 rfl rfl) h2
  have hT := of_laid1 hL
  clear hA0 hval0
  simp only [List.append_nil] at hW'
  refine (sealBack_any sk sn sb sd s1 s2 W wk wn wb wd' w1 hT).mono fun e W' ⟨he, hb⟩ => ?_
  subst he
  refine ⟨_, rfl, _, _, _, [], [], [], hW', ?_, ?_, rfl, hb.frame _, fun h => by cases h⟩
  · exact trodAll_mk1 (shut_bool Tryd.underlying4 _)
  · exact trodAll_mk3 (Joins.shut_agg4 (y0 := (.lit (.string sk.data.toList), [])) (y1 := (.lit (.string sn.data.toList), [])) (y2 := (.lit (.string sb.data.toList), [])) (y3 := (.lit (.string sd.data.toList), [])) Tryd.underlying29 (by kernel_rfl) (by kernel_rfl) ⟨1, by simp [DataW.trod, Tryd.underlying9, (show Tryd.checked.prog.underlying 9 = some .string from Tryd.underlying9), wk]⟩ ⟨1, by simp [DataW.trod, Tryd.underlying9, (show Tryd.checked.prog.underlying 9 = some .string from Tryd.underlying9), wn]⟩ ⟨1, by simp [DataW.trod, Tryd.underlying9, (show Tryd.checked.prog.underlying 9 = some .string from Tryd.underlying9), wb]⟩ ⟨1, by simp [DataW.trod, Tryd.underlying9, (show Tryd.checked.prog.underlying 9 = some .string from Tryd.underlying9), wd']⟩) (shut_int Tryd.underlying3 w1) (shut_bool Tryd.underlying4 _)

theorem sealBack_holds : Rows.SealBackSaid :=
  OpenClaim.holds_of_wide 4 Tryd.f4 rfl rfl rfl rfl rfl rfl rfl ⟨rfl, rfl, rfl, rfl, rfl⟩ rfl rfl rfl rfl rfl (by kernel_rfl) Tryd.func4 (by kernel_rfl)
    (of_decide_eq_true (by kernel_rfl)) (by unfold Func.isWrapper; first | (rw [if_pos (by decide +kernel)]; kernel_rfl) | (rw [if_neg (by decide +kernel)]; exact ⟨rfl, rfl⟩))
    (fun os started H enc _ => sealBack_lifted os started H enc)

theorem sealBack_card : Rows.SealBackCardSaid :=
  Claim7.holds_tied_plain_at .later [] [.data] true (true, "7874ff5d721e6f34371930b48cf698bc7c7c44a67f22c7a6c2cbabbdc6262590") false
    sealBack_holds (fun _ h => by cases h) (by kernel_rfl) (fun _ h => by cases h) sealBack_row_tie rfl ⟨rfl, rfl⟩ (by kernel_rfl) rfl
    (fun f fn hf hfn => by
      obtain rfl : f = 4 := Option.some.inj ((show Tryd.prog.funcNamed "cresset/cressetlaw07.SealBack" = some 4 by kernel_rfl).symm.trans hf) |>.symm
      obtain rfl : fn = Tryd.f4 := (Option.some.inj (Tryd.func4.symm.trans hfn)).symm
      exact ⟨by kernel_rfl, fun j t ht => by
        rw [Tryd.params4] at ht
        have hm : t ∈ [29, 3, 4] := by simpa using Array.mem_of_getElem? ht
        have hall : ([29, 3, 4].all fun u => !Tryd.prog.wantsStandIn u) = true := by kernel_rfl
        exact (show Tryd.prog.wantsStandIn t = false by simpa using List.all_eq_true.1 hall t hm)⟩)
    (by kernel_rfl)
#print axioms sealBack_card
end Go.Proofs.YtaodbhhdjehnnaaDoor
