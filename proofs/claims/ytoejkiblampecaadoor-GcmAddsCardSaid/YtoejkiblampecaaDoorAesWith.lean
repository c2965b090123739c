/- The reference's with: a state exclusive or a key. -/
import Derived.Test.YtoejkiblampecaaDoorAesTab
import Derived.Test.YtoejkiblampecaaDoorMove
namespace Go.Proofs.YtoejkiblampecaaDoor
open Go.RowKit Go.Sort
set_option maxRecDepth 100000
set_option linter.unusedSimpArgs false
set_option linter.unusedVariables false

theorem au8x (x y : UInt8) : bits .xor .u8 (x.toNat : Int) (y.toNat : Int) = ((x ^^^ y).toNat : Int) := by
  rw [u8_xor_nat _ _ (UInt8.toNat_lt x) (UInt8.toNat_lt y), UInt8.toNat_xor]
/-- Bytes at the beginning of a block. -/
def BytesAt (W : World) (g n : Nat) (l : List UInt8) : Prop := ∀ j, j < n → W.cell? ⟨g, j, none⟩ = some (.int .u8 ((l.getD j 0).toNat : Int))
theorem BytesAt.step {W W' : World} {g n : Nat} {l : List UInt8} (h : BytesAt W g n l) (hb : Below W.heap.size W W') : BytesAt W' g n l := fun j hj => (hb.cell (p := ⟨g, j, none⟩) (block_lt_of_cell (h j hj))).trans (h j hj)
theorem BytesAt.below {W W' : World} {g n B : Nat} {l : List UInt8} (h : BytesAt W g n l) (hb : Below B W W') (hg : g < B) : BytesAt W' g n l := fun j hj => (hb.cell (p := ⟨g, j, none⟩) hg).trans (h j hj)
theorem BytesAt.of_row {W : World} {g : Nat} {l : List UInt8} {T : TypeId} {fr : Nat × Nat} (h : W.heap[g]? = some (.cells (bcells l) T fr)) : BytesAt W g l.length l := fun j hj => bcell_at h j hj
theorem bytesAt_of_own {W : World} {base g cap : Nat} {l : List UInt8} (h : OwnS W base g cap (Lib.byteCells l)) : BytesAt W g l.length l := fun j hj => by
  refine h.cells j _ ?_
  simp [Lib.byteCells, List.getD_eq_getElem?_getD, hj]
/-- A slice of its own with a byte in it. -/
theorem own_bytes {W : World} {base n cap : Nat} {ao : Option Addr} {l : List UInt8} (h : Own W base (.slice ao n cap) (Lib.byteCells l)) (hl : l.length = n) (hp : 0 < n) : ∃ g, ao = some ⟨g, 0, none⟩ ∧ BytesAt W g n l := by
  obtain ⟨g, c, hv, ho, _⟩ := h.some (by rw [Lib.byteCells_length]; omega)
  injection hv with h1 _ _
  exact ⟨g, h1, by rw [← hl]; exact bytesAt_of_own ho⟩
theorem bcs_length (l : List UInt8) (n : Nat) (h : l.length = n) : (Lib.byteCells l).length = n := by rw [Lib.byteCells_length, h]
theorem bcs_snoc (l : List UInt8) (x : UInt8) : Lib.byteCells l ++ [.int .u8 (x.toNat : Int)] = Lib.byteCells (l ++ [x]) := by simp [Lib.byteCells]
/-- Bytes made one by one. -/
def genL (f : Nat → UInt8) (m : Nat) : List UInt8 := (List.range m).map f
theorem genL_length (f : Nat → UInt8) (m : Nat) : (genL f m).length = m := by simp [genL]
theorem genL_succ (f : Nat → UInt8) (m : Nat) : genL f m ++ [f m] = genL f (m + 1) := by simp [genL, List.range_succ]
theorem byte_at (s : ByteArray) (j : Nat) (h : j < s.size) : s[j] = s.data.toList.getD j 0 := by
  have h' : j < s.data.toList.length := by rw [← Lib.size_eq]; exact h
  rw [List.getD_eq_getElem?_getD, List.getElem?_eq_getElem h']
  rfl
theorem index_text (s : ByteArray) (j : Nat) (h : j < s.size) (w : World) : (Instr.index 9 (.string s) (.int .i64 (j : Int))).run Tryd.prog w = .ok (.int .u8 ((s.data.toList.getD j 0).toNat : Int)) w := by
  rw [run_index_string (P := Tryd.prog) w 9 s .i64 (j : Int) Tryd.underlying9]
  simp [h, byte_at]

set_option maxHeartbeats 1000000 in
theorem with_any (g cap : Nat) (l : List UInt8) (key : ByteArray) (w : World) (hk : key.size = 16) (hg : BytesAt w g 16 l) :
    Calls Tryd.prog 53 #[.slice (some ⟨g, 0, none⟩) 16 cap, .string key] w fun e w' => (∃ G c, e = .returned (.slice (some ⟨G, 0, none⟩) 16 c) ∧ BytesAt w' G 16 (plS l key.data.toList)) ∧ Below w.heap.size w w' := by
  obtain ⟨i0, hi, hz0, hz1, hz2⟩ := info_parts info_u8
  have HB0 := Lib.hid hg
  have HP : Hid (plS l key.data.toList = genL (fun i => l.getD i 0 ^^^ key.data.toList.getD i 0) 16) := Lib.hid rfl
  have HKS := Lib.hid hk
  have hgl : g < w.heap.size := block_lt_of_cell (hg 0 (by omega))
  clear hg hk
  go_enter Tryd.func53, Tryd.ntmps53
  go_wp2_with fail
  generalize hBB : w.heap.size = B at *
  have HBB := Lib.hid hBB
  have hszB : B ≤ w.heap.size := by omega
  clear hBB
  go_loopw [5, 6] (fun v i wr => ∃ (k : Nat) (ao : Option Addr) (cp : Nat), k ≤ 16 ∧ i = .int .i64 (k : Int) ∧ v = .slice ao k cp ∧ Own wr B (.slice ao k cp) (Lib.byteCells (genL (fun i => l.getD i 0 ^^^ key.data.toList.getD i 0) k)) ∧ Below B w wr ∧ B ≤ wr.heap.size) (fun _ i _ => 16 - (intOf i).toNat)
  case atStart => exact ⟨0, none, 0, by omega, rfl, rfl, Own.nil _ _, Below.refl _ _, hszB⟩
  case round =>
    obtain ⟨k, ao, cp, hk, rfl, rfl, hown, hb, hsz⟩ := hrel
    have HO := Lib.hid hown
    have HL := Lib.hid (bcs_length _ _ (genL_length (fun i => l.getD i 0 ^^^ key.data.toList.getD i 0) k))
    clear hown
    by_cases hlt : k < 16
    · have hd : decide ((k : Int) < 16) = true := by simp; omega
      have HN := Lib.hid (show Lib.byteCells (genL (fun i => l.getD i 0 ^^^ key.data.toList.getD i 0) k) ++ [.int .u8 ((l.getD k 0 ^^^ key.data.toList.getD k 0).toNat : Int)] = Lib.byteCells (genL (fun i => l.getD i 0 ^^^ key.data.toList.getD i 0) (k + 1)) from by rw [bcs_snoc, genL_succ])
      have c1 := (HB0.out.below hb (by omega)) k hlt
      have ix := index_text key k (by rw [HKS.out]; exact hlt)
      have HX := Lib.hid (au8x (l.getD k 0) (key.data.toList.getD k 0))
      generalize Lib.byteCells (genL (fun i => l.getD i 0 ^^^ key.data.toList.getD i 0) k) = cu at *
      generalize l.getD k 0 = x at *
      generalize key.data.toList.getD k 0 = y at *
      go_wp2_with fail
      have q1 := cell_regrown c1
      refine wp_region_moves_tail 9 _ rfl rfl rfl (by kernel_rfl) (by kernel_rfl) (fun _ _ _ _ h => h) ?_
      simp only [Nat.reduceSub, List.take_succ_cons, List.take_zero, List.drop_succ_cons, List.drop_zero]
      dsimp only [Act.put, Act.eval]
      repeat (first | go_big_quiet_step (fail) | quiet_step (fail))
      refine wpQuiet_nil ?_
      intro W4 hb4
      have HO4 := Lib.hid (HO.out.below hb4)
      have hbB : Below B w W4 := hb.trans (hb4.mono hsz)
      have hsz4 := Nat.le_trans hsz hb4.size
      clear HO hb hb4 q1 c1
      go_wp2_with (at_builtin; refine wpList_append_sl rfl (.tmp 11) (.tmp 20) 31 rfl B 5 i0 (.int .u8 0) 1 Tryd.underlying31 hi hz0 hz1 hz2 rfl ao k cp _ rfl (HO4.out.alloc _) HL.out ⟨W4.heap.size, 0, none⟩ 1 1 [.int .u8 _] rfl rfl (cell_one_new _ _ _) ?b2 ?b3 ?b4 ?b5 ?_)
      case b2 => intro u hu; simp at hu; subst hu; rfl
      case b3 => omega
      case b4 => omega
      case b5 => simp; omega
      intro ao5 cp5 W5 hown5 hgrow5
      have hb5 : Below B w W5 := below_append (hbB.alloc hsz4 _) (by simp; omega) (HO4.out.alloc _) hgrow5
      have hsz5 : B ≤ W5.heap.size := by have := hgrow5.size; simp at this; omega
      rw [HX.out, HN.out] at hown5
      clear hgrow5 HO4 hbB hsz4
      go_wp2_with fail
      go_roundw
      case rel => exact ⟨k + 1, ao5, cp5, by omega, by go_num, rfl, hown5, hb5, hsz5⟩
      case measure => simp [intOf]; omega
    · have hd : decide ((k : Int) < 16) = false := by simp; omega
      obtain rfl : k = 16 := by omega
      obtain ⟨G, rfl, hG⟩ := own_bytes HO.out (genL_length _ _) (by omega)
      rw [← HP.out] at hG
      go_wp2_with fail
      go_ret
      exact ⟨⟨G, cp, rfl, hG⟩, by rw [HBB.out]; exact hb⟩
end Go.Proofs.YtoejkiblampecaaDoor
