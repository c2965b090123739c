/- LadderBits: for every two texts of 32 bytes and every three bytes of bits: bits of the secret and of the public key that do not count make no difference to what Share answers; the chapter's examples hold. No condition; the prime of package field lies as the program's text lays it. -/
import Derived.Test.YtnodllkfmdhhlaaDoorCards
import Derived.Test.YtnodllkfmdhhlaaDoorTie
import Derived.SevenTiedAt
import Derived.Test.YtnodllkfmdhhlaaDoorFldL
import Derived.Test.YtnodllkfmdhhlaaDoorLadWake
namespace Go.Proofs.YtnodllkfmdhhlaaDoor
open Go.ChangeShapes Go.WideShapes Go.ChangeAt Go.WideMaps Go.WideElems Go.RowKit
open Go.ChangeMaps (open_string shut_string)
set_option maxRecDepth 100000
set_option linter.unusedSimpArgs false
set_option linter.unusedVariables false

/-- Texts of which no bit that counts differs come to the same. -/
theorem share_same (s p : ByteArray) (t r : List UInt8) (hs : s.size = 32) (hp : p.size = 32) (ht : t.length = 32) (hr : r.length = 32) (h1 : clampL t = clampL s.data.toList) (h2 : maskL r = maskL p.data.toList) :
    shareX ⟨t.toArray⟩ ⟨r.toArray⟩ = shareX s p ∧ shareE ⟨t.toArray⟩ ⟨r.toArray⟩ = shareE s p := by
  have e1 : (⟨t.toArray⟩ : ByteArray).size = 32 := ht
  have e2 : (⟨r.toArray⟩ : ByteArray).size = 32 := hr
  have e3 : (⟨t.toArray⟩ : ByteArray).data.toList = t := rfl
  have e4 : (⟨r.toArray⟩ : ByteArray).data.toList = r := rfl
  have hF := shareF_same s.data.toList p.data.toList t r h1 h2
  have hL : shareL t r = shareL s.data.toList p.data.toList := by rw [shareL, shareL, hF]
  have hO : okLB ⟨t.toArray⟩ ⟨r.toArray⟩ = okLB s p := by rw [okLB, okLB, e1, e2, hs, hp, e3, e4, hF]
  rw [shareX, shareX, shareE, shareE, hO, e3, e4, hL]
  exact ⟨rfl, rfl⟩
theorem wf8 (x : Int) (h : (Lit.int .u8 x).wf = true) : ∃ b : UInt8, x = (b.toNat : Int) := by
  have h' : 0 ≤ x ∧ x < 256 := by
    simp [Lit.wf, IntKind.min, IntKind.max, IntKind.bits, IntKind.signed] at h
    omega
  refine ⟨UInt8.ofNat x.toNat, ?_⟩
  rw [UInt8.toNat_ofNat']
  omega
theorem three_bytes (bl : List Int) (h : bl.length = 3) (hw : ∀ x ∈ bl, (Lit.int .u8 x).wf = true) : ∃ x y z : UInt8, bl = [(x.toNat : Int), (y.toNat : Int), (z.toNat : Int)] := by
  match bl, h with
  | [a, b, c], _ =>
    obtain ⟨x, rfl⟩ := wf8 a (hw a (by simp))
    obtain ⟨y, rfl⟩ := wf8 b (hw b (by simp))
    obtain ⟨z, rfl⟩ := wf8 c (hw c (by simp))
    exact ⟨x, y, z, rfl⟩
theorem xor_and (x y m : UInt8) : bits .xor .u8 (x.toNat : Int) (bits .and .u8 (y.toNat : Int) (m.toNat : Int)) = ((x ^^^ y &&& m).toNat : Int) := by
  rw [byte_and, byte_eor]
theorem cell_row {W : World} {B : Nat} {l : List Value} {T : TypeId} {fr : Nat × Nat} (h : W.heap[B]? = some (.cells l.toArray T fr)) (j : Nat) (v : Value) (hj : l[j]? = some v) : W.cell? ⟨B, j, none⟩ = some v := by
  rw [cell_of_row W _ _ _ _ _ h]; simpa using hj
set_option maxHeartbeats 4000000 in
theorem ladderBits_any (s p : ByteArray) (bl : List Int) (w : World) (_ : s.size ≤ maxLen) (_ : p.size ≤ maxLen) (hbl : bl.length = 3) (hbw : ∀ x ∈ bl, (Lit.int .u8 x).wf = true) (hT : PrmQ w) :
    Calls Tryd.prog 6 #[.string s, .string p, .agg (bl.map (Value.int .u8)).toArray] w fun e w' => e = .returned (.bool true) ∧ Below w.heap.size w w' := by
  obtain ⟨x0, x1, x2, hbx⟩ := three_bytes bl hbl hbw
  have HR0 : Hid ((bl.map (Value.int .u8))[0]? = some (.int .u8 (x0.toNat : Int))) := Lib.hid (by rw [hbx]; rfl)
  have HR1 : Hid ((bl.map (Value.int .u8))[1]? = some (.int .u8 (x1.toNat : Int))) := Lib.hid (by rw [hbx]; rfl)
  have HR2 : Hid ((bl.map (Value.int .u8))[2]? = some (.int .u8 (x2.toNat : Int))) := Lib.hid (by rw [hbx]; rfl)
  clear hbl hbw hbx
  generalize bl.map (Value.int .u8) = R at *
  have hb0 := below_new w (.cells R.toArray 30)
  have HB0 := blk_new w (.cells R.toArray 30)
  have HA := Lib.hid (fun W hW => lawake_any W hW)
  by_cases h0 : s.size ≠ 32
  · have t0 : ((s.size : Int) != 32) = true := by simp; omega
    have HP := Lib.hid (hT.step hb0)
    clear hT HB0
    go_enter Tryd.func6, Tryd.ntmps6
    go_wp2_with fail
    refine (HA.out _ HP.out).mono ?_
    rintro e W1 ⟨rfl, bk⟩
    go_wp2_with fail
    go_ret
    exact ⟨rfl, hb0.trans (bk.mono hb0.size)⟩
  by_cases h1 : p.size ≠ 32
  · have t0 : ((s.size : Int) != 32) = false := by simp; omega
    have t1 : ((p.size : Int) != 32) = true := by simp; omega
    have HP := Lib.hid (hT.step hb0)
    clear hT HB0
    go_enter Tryd.func6, Tryd.ntmps6
    go_wp2_with fail
    refine (HA.out _ HP.out).mono ?_
    rintro e W1 ⟨rfl, bk⟩
    go_wp2_with fail
    go_ret
    exact ⟨rfl, hb0.trans (bk.mono hb0.size)⟩
  replace h0 : s.size = 32 := Classical.not_not.1 h0
  replace h1 : p.size = 32 := Classical.not_not.1 h1
  have t0 : ((s.size : Int) != 32) = false := by simp; omega
  have t1 : ((p.size : Int) != 32) = false := by simp; omega
  have hsl : s.data.toList.length = 32 := by rw [← Lib.size_eq]; exact h0
  have hpl : p.data.toList.length = 32 := by rw [← Lib.size_eq]; exact h1
  obtain ⟨hX, hE⟩ := share_same s p ((s.data.toList.set 0 (s.data.toList.getD 0 0 ^^^ x0 &&& 7)).set 31 (s.data.toList.getD 31 0 ^^^ x1 &&& 192)) (p.data.toList.set 31 (p.data.toList.getD 31 0 ^^^ x2 &&& 128)) h0 h1 (by simp [hsl]) (by simp [hpl]) (clampL_same _ hsl x0 x1) (maskL_same _ hpl x2)
  have C1 := Lib.hid (fun W hW => shareT_any s p W hW)
  have C2 := Lib.hid (fun W hW => shareT_any ⟨((s.data.toList.set 0 (s.data.toList.getD 0 0 ^^^ x0 &&& 7)).set 31 (s.data.toList.getD 31 0 ^^^ x1 &&& 192)).toArray⟩ ⟨(p.data.toList.set 31 (p.data.toList.getD 31 0 ^^^ x2 &&& 128)).toArray⟩ W hW)
  rw [hX, hE] at C2
  clear hX hE
  generalize shareX s p = x at *
  generalize shareE s p = q at *
  have ex : (x.toList == x.toList) = true := by simp
  have eq : (q == q) = true := by simp
  have HP0 := hT.step hb0
  have hsz0 : (w.alloc (.cells R.toArray 30)).heap.size = w.heap.size + 1 := by simp
  obtain ⟨ca, hcv, howa, hbo⟩ := conv_bytes s (w.alloc (.cells R.toArray 30))
  rw [hsz0] at hcv howa hbo
  rw [h0] at hcv
  have HB1 := blk_below hbo (by omega) HB0
  have hb1 : Below w.heap.size w _ := hb0.trans (hbo.mono (by omega))
  have HP1 := HP0.step (hsz0 ▸ hbo)
  have hsz1 := hbo.size
  rw [hsz0] at hsz1
  clear HB0 hb0 HP0 hbo
  obtain ⟨V1, hV1⟩ : ∃ V, Lib.bytesWorld (w.alloc (.cells R.toArray 30)) 5 s = V := ⟨_, rfl⟩
  rw [hV1] at hcv howa HB1 hb1 HP1 hsz1
  have hgl : w.heap.size + 1 < V1.heap.size := howa.lt (by have := howa.le; rw [Lib.byteCells_length, hsl] at this; omega)
  obtain ⟨cb, hcw, howb, hbp⟩ := conv_bytes p V1
  rw [h1] at hcw
  replace howa := howa.stays hbp
  replace HB1 := blk_below hbp (by omega) HB1
  replace hb1 := hb1.trans (hbp.mono hb1.size)
  replace HP1 := HP1.step hbp
  generalize hgb : V1.heap.size = gb at *
  generalize hV2 : Lib.bytesWorld V1 5 p = V2 at *
  have hgb2 : gb < V2.heap.size := howb.lt (by have := howb.le; rw [Lib.byteCells_length, hpl] at this; omega)
  have HOA := Lib.hid howa; have HOB := Lib.hid howb; have HB := Lib.hid HB1; have HP := Lib.hid HP1; have hb := hb1; have HSL := Lib.hid hsl; have HPL := Lib.hid hpl; have HGA := Lib.hid hgl; have HGB := Lib.hid (show w.heap.size + 1 < gb from hgl); have HPW := Lib.hid hT
  clear howa howb HB1 HP1 hb1 hsl hpl hbp hsz1 hgl hgb2 h0 h1 hsz0 hT
  generalize s.data.toList = sl at *
  generalize p.data.toList = pl at *
  obtain ⟨a1, ha1⟩ : ∃ a, a = sl.set 0 (sl.getD 0 0 ^^^ x0 &&& 7) := ⟨_, rfl⟩
  obtain ⟨a2, ha2⟩ : ∃ a, a = a1.set 31 (sl.getD 31 0 ^^^ x1 &&& 192) := ⟨_, rfl⟩
  obtain ⟨b1, hb1⟩ : ∃ a, a = pl.set 31 (pl.getD 31 0 ^^^ x2 &&& 128) := ⟨_, rfl⟩
  have hl1 : a1.length = 32 := by rw [ha1, List.length_set]; exact HSL.out
  have hl2 : a2.length = 32 := by rw [ha2, List.length_set]; exact hl1
  have hl3 : b1.length = 32 := by rw [hb1, List.length_set]; exact HPL.out
  have h31 : a1.getD 31 0 = sl.getD 31 0 := by rw [ha1, List.getD_eq_getElem?_getD, List.getElem?_set_ne (by decide), List.getD_eq_getElem?_getD]
  rw [← ha1, ← ha2, ← hb1] at C2
  have HL1 := Lib.hid hl1; have HL2 := Lib.hid hl2; have HL3 := Lib.hid hl3; have HA1 := Lib.hid ha1; have HA2 := Lib.hid ha2; have HB1 := Lib.hid hb1; have H31 := Lib.hid h31
  clear hl1 hl2 hl3 ha1 ha2 hb1 h31
  have V0 : Hid (bits .xor .u8 ((sl.getD 0 0).toNat : Int) (bits .and .u8 (x0.toNat : Int) 7) = ((sl.getD 0 0 ^^^ x0 &&& 7).toNat : Int)) := Lib.hid (xor_and (sl.getD 0 0) x0 7)
  have V1' : Hid (bits .xor .u8 ((sl.getD 31 0).toNat : Int) (bits .and .u8 (x1.toNat : Int) 192) = ((sl.getD 31 0 ^^^ x1 &&& 192).toNat : Int)) := Lib.hid (xor_and (sl.getD 31 0) x1 192)
  have V2' : Hid (bits .xor .u8 ((pl.getD 31 0).toNat : Int) (bits .and .u8 (x2.toNat : Int) 128) = ((pl.getD 31 0 ^^^ x2 &&& 128).toNat : Int)) := Lib.hid (xor_and (pl.getD 31 0) x2 128)
  go_enter Tryd.func6, Tryd.ntmps6
  go_wp2_with fail
  clear hcv hcw t0 t1 hV1 hV2
  obtain ⟨c1, f1⟩ := own_byte HOA.out 0 (by rw [HSL.out]; decide)
  have c2 := cell_row HB.out 0 (.int .u8 (x0.toNat : Int)) HR0.out
  have k1 := cell_regrown c1; have k2 := cell_regrown c2
  clear c1 c2 f1
  obtain ⟨xa, hxa⟩ : ∃ x, x = (sl.getD 0 0).toNat := ⟨_, rfl⟩
  obtain ⟨xm, hxm⟩ : ∃ x, x = x0.toNat := ⟨_, rfl⟩
  rw [← hxa] at k1
  rw [← hxm] at k2
  have HXA := Lib.hid hxa; have HXM := Lib.hid hxm
  clear hxa hxm
  refine wp_region_reads_tail 9 (by kernel_rfl) (by kernel_rfl) ?_
  simp only [List.take_succ_cons, List.take_zero, List.drop_succ_cons, List.drop_zero]
  repeat (first | go_big_quiet_step (fail) | quiet_step (fail))
  refine wpQuiet_nil ?_
  intro U1 bk
  replace HOA := Lib.hid (HOA.out.stays bk)
  replace HOB := Lib.hid (HOB.out.stays bk)
  replace HB := Lib.hid (blk_below bk (blk_lt HB.out) HB.out)
  replace HP := Lib.hid (HP.out.step bk)
  replace hb := hb.trans (bk.mono hb.size)
  clear k1 k2 bk
  obtain ⟨c1, f1⟩ := own_byte HOA.out 0 (by rw [HSL.out]; decide)
  rw [← HXA.out] at c1
  have hput := own_byte_put HOA.out 0 (by rw [HSL.out]; decide) ((sl.getD 0 0) ^^^ x0 &&& 7)
  rw [← HA1.out, ← V0.out, ← HXA.out, ← HXM.out] at hput
  have hgA := HGA.out; have hgB := HGB.out
  have KB : Hid ((U1.setCell ⟨(w.heap.size + 1), 0, none⟩ (.int .u8 (bits .xor .u8 (xa : Int) (bits .and .u8 (xm : Int) 7)))).heap[w.heap.size]? = some (.cells R.toArray 30)) := Lib.hid ((heap_setCell_other _ _ _ _ (by simp <;> omega)).trans HB.out)
  have KO : Hid (OwnS (U1.setCell ⟨(w.heap.size + 1), 0, none⟩ (.int .u8 (bits .xor .u8 (xa : Int) (bits .and .u8 (xm : Int) 7)))) gb gb cb (Lib.byteCells pl)) := Lib.hid (HOB.out.keep (by rw [heap_setCell_other _ _ _ _ (by simp <;> omega)]))
  have KP : Hid (PrmQ (U1.setCell ⟨(w.heap.size + 1), 0, none⟩ (.int .u8 (bits .xor .u8 (xa : Int) (bits .and .u8 (xm : Int) 7))))) := Lib.hid (HPW.out.below (hb.setCell (by simp <;> omega) _) HPW.out.lt)
  have kb : Below w.heap.size w (U1.setCell ⟨(w.heap.size + 1), 0, none⟩ (.int .u8 (bits .xor .u8 (xa : Int) (bits .and .u8 (xm : Int) 7)))) := hb.setCell (by simp <;> omega) _
  have KX := Lib.hid hput
  clear hput HB HOA HOB HP hb hgA hgB
  go_wp2_with fail
  clear c1 f1 HXA HXM
  generalize (World.setCell _ _ _) = Y1 at *
  have HOA := KX; have HOB := KO; have HB := KB; have HP := KP; have hb := kb
  clear KX KO KB KP kb
  try simp only [Act.put]
  obtain ⟨c1, f1⟩ := own_byte HOA.out 31 (by rw [HL1.out]; decide)
  rw [H31.out] at c1
  have c2 := cell_row HB.out 1 (.int .u8 (x1.toNat : Int)) HR1.out
  have k1 := cell_regrown c1; have k2 := cell_regrown c2
  clear c1 c2 f1
  obtain ⟨xa, hxa⟩ : ∃ x, x = (sl.getD 31 0).toNat := ⟨_, rfl⟩
  obtain ⟨xm, hxm⟩ : ∃ x, x = x1.toNat := ⟨_, rfl⟩
  rw [← hxa] at k1
  rw [← hxm] at k2
  have HXA := Lib.hid hxa; have HXM := Lib.hid hxm
  clear hxa hxm
  refine wp_region_reads_tail 9 (by kernel_rfl) (by kernel_rfl) ?_
  simp only [List.take_succ_cons, List.take_zero, List.drop_succ_cons, List.drop_zero]
  repeat (first | go_big_quiet_step (fail) | quiet_step (fail))
  refine wpQuiet_nil ?_
  intro U2 bk
  replace HOA := Lib.hid (HOA.out.stays bk)
  replace HOB := Lib.hid (HOB.out.stays bk)
  replace HB := Lib.hid (blk_below bk (blk_lt HB.out) HB.out)
  replace HP := Lib.hid (HP.out.step bk)
  replace hb := hb.trans (bk.mono hb.size)
  clear k1 k2 bk
  obtain ⟨c1, f1⟩ := own_byte HOA.out 31 (by rw [HL1.out]; decide)
  rw [H31.out] at c1
  rw [← HXA.out] at c1
  have hput := own_byte_put HOA.out 31 (by rw [HL1.out]; decide) ((sl.getD 31 0) ^^^ x1 &&& 192)
  rw [← HA2.out, ← V1'.out, ← HXA.out, ← HXM.out] at hput
  have hgA := HGA.out; have hgB := HGB.out
  have KB : Hid ((U2.setCell ⟨(w.heap.size + 1), 31, none⟩ (.int .u8 (bits .xor .u8 (xa : Int) (bits .and .u8 (xm : Int) 192)))).heap[w.heap.size]? = some (.cells R.toArray 30)) := Lib.hid ((heap_setCell_other _ _ _ _ (by simp <;> omega)).trans HB.out)
  have KO : Hid (OwnS (U2.setCell ⟨(w.heap.size + 1), 31, none⟩ (.int .u8 (bits .xor .u8 (xa : Int) (bits .and .u8 (xm : Int) 192)))) gb gb cb (Lib.byteCells pl)) := Lib.hid (HOB.out.keep (by rw [heap_setCell_other _ _ _ _ (by simp <;> omega)]))
  have KP : Hid (PrmQ (U2.setCell ⟨(w.heap.size + 1), 31, none⟩ (.int .u8 (bits .xor .u8 (xa : Int) (bits .and .u8 (xm : Int) 192))))) := Lib.hid (HPW.out.below (hb.setCell (by simp <;> omega) _) HPW.out.lt)
  have kb : Below w.heap.size w (U2.setCell ⟨(w.heap.size + 1), 31, none⟩ (.int .u8 (bits .xor .u8 (xa : Int) (bits .and .u8 (xm : Int) 192)))) := hb.setCell (by simp <;> omega) _
  have KX := Lib.hid hput
  clear hput HB HOA HOB HP hb hgA hgB
  go_wp2_with fail
  clear c1 f1 HXA HXM
  generalize (World.setCell _ _ _) = Y2 at *
  have HOA := KX; have HOB := KO; have HB := KB; have HP := KP; have hb := kb
  clear KX KO KB KP kb
  try simp only [Act.put]
  obtain ⟨c1, f1⟩ := own_byte HOB.out 31 (by rw [HPL.out]; decide)
  have c2 := cell_row HB.out 2 (.int .u8 (x2.toNat : Int)) HR2.out
  have k1 := cell_regrown c1; have k2 := cell_regrown c2
  clear c1 c2 f1
  obtain ⟨xa, hxa⟩ : ∃ x, x = (pl.getD 31 0).toNat := ⟨_, rfl⟩
  obtain ⟨xm, hxm⟩ : ∃ x, x = x2.toNat := ⟨_, rfl⟩
  rw [← hxa] at k1
  rw [← hxm] at k2
  have HXA := Lib.hid hxa; have HXM := Lib.hid hxm
  clear hxa hxm
  refine wp_region_reads_tail 9 (by kernel_rfl) (by kernel_rfl) ?_
  simp only [List.take_succ_cons, List.take_zero, List.drop_succ_cons, List.drop_zero]
  repeat (first | go_big_quiet_step (fail) | quiet_step (fail))
  refine wpQuiet_nil ?_
  intro U3 bk
  replace HOA := Lib.hid (HOA.out.stays bk)
  replace HOB := Lib.hid (HOB.out.stays bk)
  replace HB := Lib.hid (blk_below bk (blk_lt HB.out) HB.out)
  replace HP := Lib.hid (HP.out.step bk)
  replace hb := hb.trans (bk.mono hb.size)
  clear k1 k2 bk
  obtain ⟨c1, f1⟩ := own_byte HOB.out 31 (by rw [HPL.out]; decide)
  rw [← HXA.out] at c1
  have hput := own_byte_put HOB.out 31 (by rw [HPL.out]; decide) ((pl.getD 31 0) ^^^ x2 &&& 128)
  rw [← HB1.out, ← V2'.out, ← HXA.out, ← HXM.out] at hput
  have hgA := HGA.out; have hgB := HGB.out
  have KB : Hid ((U3.setCell ⟨gb, 31, none⟩ (.int .u8 (bits .xor .u8 (xa : Int) (bits .and .u8 (xm : Int) 128)))).heap[w.heap.size]? = some (.cells R.toArray 30)) := Lib.hid ((heap_setCell_other _ _ _ _ (by simp <;> omega)).trans HB.out)
  have KO : Hid (OwnS (U3.setCell ⟨gb, 31, none⟩ (.int .u8 (bits .xor .u8 (xa : Int) (bits .and .u8 (xm : Int) 128)))) (w.heap.size + 1) (w.heap.size + 1) ca (Lib.byteCells a2)) := Lib.hid (HOA.out.keep (by rw [heap_setCell_other _ _ _ _ (by simp <;> omega)]))
  have KP : Hid (PrmQ (U3.setCell ⟨gb, 31, none⟩ (.int .u8 (bits .xor .u8 (xa : Int) (bits .and .u8 (xm : Int) 128))))) := Lib.hid (HPW.out.below (hb.setCell (by simp <;> omega) _) HPW.out.lt)
  have kb : Below w.heap.size w (U3.setCell ⟨gb, 31, none⟩ (.int .u8 (bits .xor .u8 (xa : Int) (bits .and .u8 (xm : Int) 128)))) := hb.setCell (by simp <;> omega) _
  have KX := Lib.hid hput
  clear hput HB HOA HOB HP hb hgA hgB
  go_wp2_with fail
  clear c1 f1 HXA HXM
  generalize (World.setCell _ _ _) = Y3 at *
  have HOB := KX; have HOA := KO; have HB := KB; have HP := KP; have hb := kb
  clear KX KO KB KP kb
  try simp only [Act.put]
  refine (C1.out Y3 HP.out).mono ?_
  rintro e W1 ⟨rfl, bk⟩
  replace HOA := Lib.hid (HOA.out.stays bk)
  replace HOB := Lib.hid (HOB.out.stays bk)
  replace HP := Lib.hid (HP.out.step bk)
  replace hb := hb.trans (bk.mono hb.size)
  have htA := conv_text_own HOA.out HL2.out ca
  have htB := conv_text_own HOB.out HL3.out cb
  clear bk
  go_wp2_with fail
  refine (C2.out W1 HP.out).mono ?_
  rintro e W2 ⟨rfl, bk⟩
  replace HP := Lib.hid (HP.out.step bk)
  replace hb := hb.trans (bk.mono hb.size)
  clear bk htA htB
  go_wp2_with fail
  refine (HA.out W2 HP.out).mono ?_
  rintro e W3 ⟨rfl, bk⟩
  go_wp2_with fail
  go_ret
  exact ⟨rfl, hb.trans (bk.mono hb.size)⟩

theorem ladderBits_lifted (os : Os) (started : os.Started) (H : Type) (enc : TypeId × Value → H) :
    ReturnsInHanded {} Tryd.checked os 6 .any (fun w args => (Rows.ladderBitsSpec.pre enc Tryd.prog Tryd.f6 [] false w args ∧ laidMetH Tryd.prog laid1 w) ∧ sizedMet enc Tryd.prog Tryd.f6 (OpenSpec.ofChange Rows.ladderBitsSpec) false w args)
      (Rows.ladderBitsSpec.post enc Tryd.prog Tryd.f6 false true false false) := by
  refine returnsInHanded_of_change_and (C := Tryd.checked) (X := fun w _ => laidMetH Tryd.prog laid1 w) (fun _ _ _ hh h => h.of_heap hh) own1 started (by kernel_rfl) Tryd.func6
    (ChangeSpec.witness_shaped (enc := enc) (C := Tryd.checked) (os := os) (X := fun w _ => laidMetH Tryd.prog laid1 w) false (World.doorLaid Tryd.prog 400 os) #[.string ⟨#[]⟩, .string ⟨#[]⟩, .agg #[.int .u8 0, .int .u8 0, .int .u8 0]] 8 rfl (World.shaped_of_RefB (by kernel_rfl) (by kernel_rfl)) (by kernel_rfl) (by kernel_rfl) (by kernel_rfl) (door_met1 os _)) ?_
  intro W base args ds gs before hval0 hW _ _ hL _
  have hval : ∀ (j : Nat) t v, Tryd.f6.params[j]? = some t → args[j]? = some v → Value.okWide Tryd.prog W .any base t v := hval0
  have hW' := hW
  obtain ⟨p, q, hA0, hV, rfl, hfz, hnd⟩ := hW
  have hA : DataW.TrodAll enc Tryd.prog W 0 (fun _ => true) true Tryd.f6.params.toList args.toList ds p := hA0
  rw [Tryd.params6] at hA hval
  obtain ⟨v0, v1, v2, d0, d1, d2, p0, p1, p2, rfl, rfl, rfl, h0, h1, h2⟩ := trodAll_three hA
  obtain ⟨rfl, rfl⟩ := trodVars_none hV
  obtain ⟨s0, rfl, rfl, rfl, w0⟩ := open_string Tryd.underlying9 (hval 0 9 v0 rfl rfl) h0
  obtain ⟨s1, rfl, rfl, rfl, w1⟩ := open_string Tryd.underlying9 (hval 1 9 v1 rfl rfl) h1
  obtain ⟨l2, wl2, rfl, rfl, rfl, ww2⟩ := open_intsN Tryd.underlying30 Tryd.underlying5 (by kernel_rfl) (by kernel_rfl) (hval 2 30 v2 rfl rfl) h2
  have hT := of_laid1 hL
  clear hA0 hval0
  simp only [List.append_nil] at hW'
  refine (ladderBits_any s0 s1 l2 W w0 w1 wl2 ww2 hT).mono fun e W' ⟨he, hb⟩ => ?_
  subst he
  refine ⟨_, rfl, _, _, _, [], [], [], hW', ?_, ?_, rfl, hb.frame _, fun h => by cases h⟩
  · exact trodAll_mk1 (shut_bool Tryd.underlying4 _)
  · exact trodAll_mk3 (shut_string Tryd.underlying9 w0) (shut_string Tryd.underlying9 w1) (shut_intsN Tryd.underlying30 Tryd.underlying5 (by kernel_rfl) (by kernel_rfl) wl2 ww2)

theorem ladderBits_holds : Rows.LadderBitsSaid :=
  OpenClaim.holds_of_wide 6 Tryd.f6 rfl rfl rfl rfl rfl rfl rfl ⟨rfl, rfl, rfl, rfl, rfl⟩ rfl rfl rfl rfl rfl (by kernel_rfl) Tryd.func6 (by kernel_rfl)
    (of_decide_eq_true (by kernel_rfl)) (by unfold Func.isWrapper; first | (rw [if_pos (by decide +kernel)]; kernel_rfl) | (rw [if_neg (by decide +kernel)]; exact ⟨rfl, rfl⟩))
    (fun os started H enc _ => ladderBits_lifted os started H enc)

theorem ladderBits_card : Rows.LadderBitsCardSaid :=
  Claim7.holds_tied_plain_at .later [] [.data] true (true, "3d8fa569b354870fe76bfeed7cfd70fef40b831b3ed3f75af293c2cd06270a74") false
    ladderBits_holds (fun _ h => by cases h) (by kernel_rfl) (fun _ h => by cases h) ladderBits_row_tie rfl ⟨rfl, rfl⟩ (by kernel_rfl) rfl
    (fun f fn hf hfn => by
      obtain rfl : f = 6 := Option.some.inj ((show Tryd.prog.funcNamed "cresset/cressetlaw09.LadderBits" = some 6 by kernel_rfl).symm.trans hf) |>.symm
      obtain rfl : fn = Tryd.f6 := (Option.some.inj (Tryd.func6.symm.trans hfn)).symm
      exact ⟨by kernel_rfl, fun j t ht => by
        rw [Tryd.params6] at ht
        have hm : t ∈ [9, 9, 30] := by simpa using Array.mem_of_getElem? ht
        have hall : ([9, 9, 30].all fun u => !Tryd.prog.wantsStandIn u) = true := by kernel_rfl
        exact (show Tryd.prog.wantsStandIn t = false by simpa using List.all_eq_true.1 hall t hm)⟩)
    (by kernel_rfl)
#print axioms ladderBits_card
end Go.Proofs.YtnodllkfmdhhlaaDoor
