/- A running digest of words of 32 bits in memory: its ten cells in the midst of a block; what it is to change one block alone; strings.Clone: the same bytes; nothing that was there has changed. The string has at most 2^40 bytes; (*running).write at words of 32 bits: what has been written goes on by the data; other memory is as it was; A running digest of words of 64 bits in memory: its ten cells in the midst of a block; what it is to change one block alone; (*running).write at words of 128 bits: what has been written goes on by the data; other memory is as it was. -/
import Derived.Test.YtjjgakkijhjaiaaDoorShaA
import Derived.Test.YtjjgakkijhjaiaaDoorBase
import Derived.Lib.BufferWrite
import Derived.Lib.UnsafeStr
import Derived.Laws.MakeOwn
namespace Go.Proofs.YtjjgakkijhjaiaaDoor
section
open Go.RowKit Go.Sort
set_option maxRecDepth 100000
set_option linter.unusedSimpArgs false
set_option linter.unusedVariables false

/-- The cells of a block in whose midst a running digest lies. -/
def rc32 (pre post : List Value) (st : W8) (rest : ByteArray) (len : Int) : Array Value :=
  (pre ++ (Value.int .u32 st.a :: Value.int .u32 st.b :: Value.int .u32 st.c :: Value.int .u32 st.d :: Value.int .u32 st.e :: Value.int .u32 st.f :: Value.int .u32 st.g :: Value.int .u32 st.h :: Value.string rest :: Value.int .u64 len :: post)).toArray

theorem rc32_state (pre post : List Value) (st : W8) (rest : ByteArray) (len : Int) (j : Nat) (hj : j < 8) : (rc32 pre post st rest len)[pre.length + j]? = some (.int .u32 (st.at j)) := by
  rcases lt8 hj with rfl | rfl | rfl | rfl | rfl | rfl | rfl | rfl <;> simp [rc32, W8.at]
theorem rc32_rest (pre post : List Value) (st : W8) (rest : ByteArray) (len : Int) : (rc32 pre post st rest len)[pre.length + 8]? = some (.string rest) := by
  simp [rc32]
theorem rc32_len (pre post : List Value) (st : W8) (rest : ByteArray) (len : Int) : (rc32 pre post st rest len)[pre.length + 9]? = some (.int .u64 len) := by
  simp [rc32]
theorem rc32_setLen (pre post : List Value) (st : W8) (rest : ByteArray) (len x : Int) : (rc32 pre post st rest len).setIfInBounds (pre.length + 9) (.int .u64 x) = rc32 pre post st rest x := by
  simp [rc32, List.set_append]
theorem rc32_setRest (pre post : List Value) (st : W8) (rest x : ByteArray) (len : Int) : (rc32 pre post st rest len).setIfInBounds (pre.length + 8) (.string x) = rc32 pre post st x len := by
  simp [rc32, List.set_append]
theorem rc32_setState {w : World} {b : Nat} {ty : TypeId} (pre post : List Value) (st st' : W8) (rest : ByteArray) (len : Int) (h : w.heap[b]? = some (.cells (rc32 pre post st rest len) ty)) :
    (w.setCells b pre.length st'.cells32.toList).heap[b]? = some (.cells (rc32 pre post st' rest len) ty) := by
  rw [show st'.cells32.toList = [.int .u32 st'.a, .int .u32 st'.b, .int .u32 st'.c, .int .u32 st'.d, .int .u32 st'.e, .int .u32 st'.f, .int .u32 st'.g, .int .u32 st'.h] from rfl]
  simp only [World.setCells]
  have h0 := heap_setCell_same w b pre.length _ ty (.int .u32 st'.a) h
  have h1 := heap_setCell_same _ b (pre.length + 1) _ ty (.int .u32 st'.b) h0
  have h2 := heap_setCell_same _ b (pre.length + 1 + 1) _ ty (.int .u32 st'.c) h1
  have h3 := heap_setCell_same _ b (pre.length + 1 + 1 + 1) _ ty (.int .u32 st'.d) h2
  have h4 := heap_setCell_same _ b (pre.length + 1 + 1 + 1 + 1) _ ty (.int .u32 st'.e) h3
  have h5 := heap_setCell_same _ b (pre.length + 1 + 1 + 1 + 1 + 1) _ ty (.int .u32 st'.f) h4
  have h6 := heap_setCell_same _ b (pre.length + 1 + 1 + 1 + 1 + 1 + 1) _ ty (.int .u32 st'.g) h5
  have h7 := heap_setCell_same _ b (pre.length + 1 + 1 + 1 + 1 + 1 + 1 + 1) _ ty (.int .u32 st'.h) h6
  rw [h7]
  simp [rc32, List.set_append, Nat.add_assoc]

/-- The blocks of a text, one behind the other. -/
def fold32 (K : Nat → Int) (st : W8) (l : List UInt8) : Nat → W8
  | 0 => st
  | n + 1 => comp32 K (fold32 K st l n) ((l.drop (64 * n)).take 64)
theorem fold32_succ (K : Nat → Int) (st : W8) (l : List UInt8) (n : Nat) : fold32 K st l (n + 1) = fold32 K (comp32 K st (l.take 64)) (l.drop 64) n := by
  induction n with
  | zero => simp [fold32]
  | succ n ih =>
    rw [fold32, ih, fold32, List.drop_drop, show 64 + 64 * n = 64 * (n + 1) by omega]
/-- What is left of a text behind its whole blocks. -/
def tail64 (l : List UInt8) : List UInt8 := l.drop (64 * (l.length / 64))
def full32 (K : Nat → Int) (st : W8) (l : List UInt8) : W8 := fold32 K st l (l.length / 64)
theorem full32_short (K : Nat → Int) (st : W8) (l : List UInt8) (h : l.length < 64) : full32 K st l = st ∧ tail64 l = l := by
  have : l.length / 64 = 0 := by omega
  simp [full32, tail64, this, fold32]
theorem full32_long (K : Nat → Int) (st : W8) (l : List UInt8) (h : 64 ≤ l.length) : full32 K st l = full32 K (comp32 K st (l.take 64)) (l.drop 64) ∧ tail64 l = tail64 (l.drop 64) := by
  have e : l.length / 64 = (l.length - 64) / 64 + 1 := by omega
  constructor
  · unfold full32
    rw [e, fold32_succ, List.length_drop]
  · unfold tail64
    rw [List.drop_drop, List.length_drop]
    congr 1
    omega
theorem tail64_length (l : List UInt8) : (tail64 l).length < 64 := by
  unfold tail64; rw [List.length_drop]; omega
end

section
open Go.RowKit
set_option maxRecDepth 100000
set_option linter.unusedSimpArgs false
set_option linter.unusedVariables false

set_option maxHeartbeats 1000000 in
set_option maxRecDepth 100000 in
theorem liteClone_any (s : ByteArray) (w : World) (hlim : s.size ≤ 1099511627776) :
    Calls Tryd.prog 87 #[.string s] w fun e w' => e = .returned (.string s) ∧ Below w.heap.size w w' := by
  by_cases h0 : s.size = 0
  · have hs : s = ⟨#[]⟩ := by
      apply ByteArray.ext
      exact Array.eq_empty_of_size_eq_zero h0
    subst hs
    go_enter Tryd.func87, Tryd.ntmps87
    go_wp2
    go_ret
    exact ⟨rfl, Below.refl _ _⟩
  · obtain ⟨i0, hi, hz0, hz1, hz2⟩ := info_parts info_u8
    have hinfo : (Tryd.prog.info? 5).map (·.size) = some 1 := by rw [hi]; simp [hz1]
    have hco : Tryd.prog.cellsOf 5 = 1 := by simp [Program.cellsOf, hi, hz1]
    obtain ⟨M, hM⟩ : ∃ M, M = madeCells (Value.int .u8 0).cells (((s.size : Nat) : Int).toNat * i0.size) := ⟨_, rfl⟩
    have hMs : M.size = s.size := by rw [hM, size_madeCells, hz1]; simp
    have hmk : ∀ W : World, (Instr.makeSlice 38 (.int .i64 (s.size : Int)) (.int .i64 (s.size : Int))).run Tryd.prog W = .ok (.slice (some ⟨W.heap.size, 0, none⟩) s.size s.size) (W.alloc (.cells M 5)) := fun W => by
      have h := run_make (P := Tryd.prog) W 38 5 i0 (.int .u8 0) Tryd.underlying38 hi hz0 .i64 .i64 (s.size : Int) (s.size : Int) (by omega) (by omega) (by rw [hz2]; omega) (by omega)
      rw [← hM] at h
      simpa using h
    clear hM
    have hcp := Lib.run_copy_row_string (P := Tryd.prog) (w.alloc (.cells M 5)) 38 9 3 5 w.heap.size 0 s.size s.size s M 5 Tryd.underlying38 hinfo (blk_new w _) (Nat.le_refl _) (by omega)
    obtain ⟨Y, hY⟩ : ∃ Y, Y = (M.toList.take 0 ++ Lib.byteCells s.data.toList ++ M.toList.drop (0 + s.size)).toArray := ⟨_, rfl⟩
    rw [← hY] at hcp
    have hYl : Y.toList = Lib.byteCells s.data.toList := by
      rw [hY, List.toList_toArray, List.take_zero, List.nil_append, List.drop_of_length_le (by rw [Array.length_toList]; omega), List.append_nil]
    have hYs : Y.size = s.size := by rw [← Array.length_toList, hYl, Lib.byteCells_length, ← Lib.size_eq]
    have hgY : ((w.alloc (.cells M 5)).setRow w.heap.size Y).heap[w.heap.size]? = some (.cells Y 5 (0, 0)) := setRow_heap _ _ M _ 5 (0, 0) (blk_new w _)
    have hne : s.data.toList ≠ [] := fun e => h0 (by rw [Lib.size_eq, e]; rfl)
    have hUS := Lib.run_unsafeString_row (P := Tryd.prog) ((w.alloc (.cells M 5)).setRow w.heap.size Y) 88 3 9 5 Tryd.underlying88 hco w.heap.size Y.size (by unfold World.shape?; rw [hgY]) s.data.toList hne (by rw [← Lib.size_eq]; omega) (by rw [← Lib.size_eq]; omega)
      (fun j x hx => Lib.cells_of_row hgY Y.size j _ (by rw [List.take_of_length_le (by rw [Array.length_toList]; exact Nat.le_refl _), hYl]; simp [Lib.byteCells, hx]))
    rw [← Lib.size_eq] at hUS
    clear hY
    go_enter Tryd.func87, Tryd.ntmps87
    go_wp2
    go_ret
    have hb1 : Below w.heap.size w (w.alloc (.cells M 5)) := below_new w _
    have hb2 : Below w.heap.size (w.alloc (.cells M 5)) ((w.alloc (.cells M 5)).setRow w.heap.size Y) := ⟨rfl, rfl, rfl, by simp, fun k hk => setRow_other _ _ _ _ (by omega)⟩
    exact ⟨rfl, Lib.below_freeze (hb1.trans hb2) (p := ⟨w.heap.size, 0, none⟩) (Nat.le_refl _) _⟩

set_option maxRecDepth 100000 in
theorem clone_any (s : ByteArray) (w : World) (hlim : s.size ≤ 1099511627776) :
    Calls Tryd.prog 78 #[.string s] w fun e w' => e = .returned (.string s) ∧ Below w.heap.size w w' := by
  go_enter Tryd.func78, Tryd.ntmps78
  go_wp2_with (go_at_call 87; refine (liteClone_any _ _ hlim).mono ?_; rintro e w' ⟨rfl, hb⟩)
  go_ret
  exact ⟨rfl, hb⟩
end

section
open Go.RowKit Go.Sort
set_option maxRecDepth 100000
set_option linter.unusedSimpArgs false
set_option linter.unusedVariables false

structure WInv32 (K : Nat → Int) (b Bp : Nat) (ty : TypeId) (pre post : List Value) (w W : World) (st : W8) (rest : ByteArray) (len : Int) : Prop where
  prm : PrmAt W Bp
  run : W.heap[b]? = some (.cells (rc32 pre post st rest len) ty)
  tab : TabK W K
  but : But b w W
  ne : b ≠ Bp
  nk : b ≠ 1
section
variable {K : Nat → Int} {b Bp : Nat} {ty : TypeId} {pre post : List Value} {w W W' : World} {st : W8} {rest : ByteArray} {len : Int}
theorem WInv32.step (h : WInv32 K b Bp ty pre post w W st rest len) (hb : Below W.heap.size W W') : WInv32 K b Bp ty pre post w W' st rest len :=
  ⟨h.prm.below hb (blk_lt h.prm), blk_below hb (blk_lt h.run) h.run, h.tab.below hb h.tab.lt, h.but.trans (.of_below hb), h.ne, h.nk⟩
theorem WInv32.setLen (h : WInv32 K b Bp ty pre post w W st rest len) (x : Int) : WInv32 K b Bp ty pre post w (W.setCell ⟨b, pre.length + 9, none⟩ (.int .u64 x)) st rest x :=
  ⟨(heap_setCell_other _ _ _ _ (by simpa using h.ne.symm)).trans h.prm, by rw [← rc32_setLen pre post st rest len x]; exact heap_setCell_same _ _ _ _ _ _ h.run,
   fun t ht => (World.cell?_setCell_far _ _ _ _ (by simpa using h.nk)).trans (h.tab t ht), h.but.trans (.setCell b _ _ _ rfl), h.ne, h.nk⟩
theorem WInv32.setRest (h : WInv32 K b Bp ty pre post w W st rest len) (x : ByteArray) : WInv32 K b Bp ty pre post w (W.setCell ⟨b, pre.length + 8, none⟩ (.string x)) st x len :=
  ⟨(heap_setCell_other _ _ _ _ (by simpa using h.ne.symm)).trans h.prm, by rw [← rc32_setRest pre post st rest x len]; exact heap_setCell_same _ _ _ _ _ _ h.run,
   fun t ht => (World.cell?_setCell_far _ _ _ _ (by simpa using h.nk)).trans (h.tab t ht), h.but.trans (.setCell b _ _ _ rfl), h.ne, h.nk⟩
theorem WInv32.setState (h : WInv32 K b Bp ty pre post w W st rest len) (st' : W8) : WInv32 K b Bp ty pre post w (W.setCells b pre.length st'.cells32.toList) st' rest len :=
  ⟨((But.setCells b _ _ _).block _ (blk_lt h.prm) h.ne.symm).trans h.prm, rc32_setState pre post st st' rest len h.run,
   fun t ht => (World.cell?_setCells_out _ _ _ _ _ (fun e _ => absurd e.symm h.nk)).trans (h.tab t ht), h.but.trans (.setCells b _ _ _), h.ne, h.nk⟩
theorem WInv32.cellLen (h : WInv32 K b Bp ty pre post w W st rest len) : W.cell? ⟨b, pre.length + 9, none⟩ = some (.int .u64 len) := by rw [cell_of_row W _ _ _ _ _ h.run]; exact rc32_len ..
theorem WInv32.cellRest (h : WInv32 K b Bp ty pre post w W st rest len) : W.cell? ⟨b, pre.length + 8, none⟩ = some (.string rest) := by rw [cell_of_row W _ _ _ _ _ h.run]; exact rc32_rest ..
theorem WInv32.cellState (h : WInv32 K b Bp ty pre post w W st rest len) (j : Nat) (hj : j < 8) : W.cell? ⟨b, pre.length + j, none⟩ = some (.int .u32 (st.at j)) := by rw [cell_of_row W _ _ _ _ _ h.run]; exact rc32_state _ _ _ _ _ _ hj
theorem WInv32.frozen (h : WInv32 K b Bp ty pre post w W st rest len) (j : Nat) : W.frozen? ⟨b, j, none⟩ = false := frozen_of_row W _ _ _ _ h.run
theorem WInv32.there (h : WInv32 K b Bp ty pre post w W st rest len) : W.there b pre.length 8 := fun j hj => ⟨by rw [h.cellState j hj]; rfl, h.frozen _⟩
end

def WPost32 (K : Nat → Int) (b : Nat) (ty : TypeId) (pre post : List Value) (st : W8) (rest data : ByteArray) (len : Int) (w : World) (e : Ending) (w' : World) : Prop :=
  e = .returned (.tuple #[]) ∧ ∃ rest' : ByteArray, rest'.data.toList = tail64 (rest.data.toList ++ data.data.toList) ∧
      w'.heap[b]? = some (.cells (rc32 pre post (full32 (fun t => K t / 4294967296) st (rest.data.toList ++ data.data.toList)) rest' (len + data.size)) ty) ∧ But b w w'

theorem WInv32.begin {K : Nat → Int} {b : Nat} {ty : TypeId} {pre post : List Value} {st : W8} {rest : ByteArray} {len : Int} {w : World}
    (hrun : w.heap[b]? = some (.cells (rc32 pre post st rest len) ty)) (hK : TabK w K) (hbk : b ≠ 1) :
    WInv32 K b w.heap.size ty pre post w (w.alloc (.cells #[.int .i64 64, .int .i64 64, .int .u64 7, .int .u64 18, .int .u64 3, .int .u64 17, .int .u64 19, .int .u64 10, .int .u64 6, .int .u64 11, .int .u64 25, .int .u64 2, .int .u64 13, .int .u64 22] 49)) st rest len :=
  ⟨blk_new w _, blk_old hrun, hK.below (below_new w _) hK.lt, .of_below (below_new w _), Nat.ne_of_lt (blk_lt hrun), hbk⟩

/-- The data does not fill the block that was begun. -/
theorem write32_short (K : Nat → Int) (b : Nat) (ty : TypeId) (pre post : List Value) (st : W8) (rest data : ByteArray) (len : Int) (w : World)
    (hrun : w.heap[b]? = some (.cells (rc32 pre post st rest len) ty)) (hK : TabK w K) (hbk : b ≠ 1)
    (hr : 0 < rest.size) (hs : rest.size + data.size < 64) (h0 : 0 ≤ len) (h1 : len ≤ 1099511627776) :
    Calls Tryd.prog 65 #[.pointer (some ⟨b, pre.length, none⟩), prm256, .string data] w (WPost32 K b ty pre post st rest data len w) := by
  have hinv := WInv32.begin hrun hK hbk
  have HV := Lib.hid hinv
  have cl := hinv.cellLen
  have cr := hinv.cellRest
  have fl := hinv.frozen (pre.length + 9)
  have hre : rest.toList.isEmpty = false := by
    cases h : rest.toList.isEmpty with
    | false => rfl
    | true =>
      rw [List.isEmpty_iff] at h
      have : rest.size = 0 := by rw [Lib.size_eq, ← Lib.toList_data, h]; rfl
      omega
  clear hinv hrun hK
  go_enter Tryd.func65, Tryd.ntmps65
  go_wp2_with fail
  replace HV := Lib.hid (HV.out.setLen (len + data.size))
  clear cl cr fl
  generalize World.setCell _ _ _ = W at *
  generalize w.heap.size = Bp at *
  have hmin : (data.size : Int) < 64 - (rest.size : Int) := by omega
  · have cr := HV.out.cellRest
    have cp := HV.out.prm.cells.1
    have kr := cell_regrown cr; have kp := cell_regrown cp
    refine wp_region_reads (by kernel_rfl) (by kernel_rfl) ?_
    repeat (first | go_big_quiet_step (fail) | quiet_step (fail))
    refine wpQuiet_nil ?_
    intro W1 hb1
    replace HV := Lib.hid (HV.out.step hb1)
    clear cr cp kr kp hb1
    go_wp2_with fail
    have cr := HV.out.cellRest
    have fr := HV.out.frozen (pre.length + 8)
    have kr := cell_regrown cr
    refine wp_region_reads_tail 10 (by kernel_rfl) (by kernel_rfl) ?_
    simp only [List.take_succ_cons, List.take_zero, List.drop_succ_cons, List.drop_zero]
    repeat (first | go_big_quiet_step (fail) | quiet_step (fail))
    refine wpQuiet_nil ?_
    intro W2 hb2
    replace HV := Lib.hid (HV.out.step hb2)
    clear cr fr kr hb2
    have cr := HV.out.cellRest
    have fr := HV.out.frozen (pre.length + 8)
    go_wp2_with fail
    replace HV := Lib.hid (HV.out.setRest (rest ++ data))
    clear cr fr
    generalize World.setCell _ _ _ = W3 at *
    have hlt : decide ((rest.size : Int) + (data.size : Int) < 64) = true := by simp; omega
    have cr := HV.out.cellRest
    have cp := HV.out.prm.cells.1
    have kr := cell_regrown cr; have kp := cell_regrown cp
    refine wp_region_reads (by kernel_rfl) (by kernel_rfl) ?_
    repeat (first | go_big_quiet_step (fail) | quiet_step (fail))
    refine wpQuiet_nil ?_
    intro W4 hb4
    replace HV := Lib.hid (HV.out.step hb4)
    clear cr cp kr kp hb4
    go_wp2_with fail
    go_end0
    have hl : (rest.data.toList ++ data.data.toList).length < 64 := by rw [List.length_append, ← Lib.size_eq, ← Lib.size_eq]; exact hs
    have hf := full32_short (fun t => K t / 4294967296) st _ hl
    refine ⟨rfl, rest ++ data, ?_, ?_, HV.out.but⟩
    · rw [hf.2]; simp
    · rw [hf.1]; exact HV.out.run

def strOf (v : Value) : Nat := match v with | .string x => x.size | _ => 0

set_option maxHeartbeats 1000000 in
set_option maxRecDepth 100000 in
/-- Nothing was begun. -/
theorem write32_none (K : Nat → Int) (b : Nat) (ty : TypeId) (pre post : List Value) (st : W8) (rest data : ByteArray) (len : Int) (w : World)
    (hrun : w.heap[b]? = some (.cells (rc32 pre post st rest len) ty)) (hK : TabK w K) (hbk : b ≠ 1)
    (hr : rest.size = 0) (hs : data.size ≤ 1099511627776) (h0 : 0 ≤ len) (h1 : len ≤ 1099511627776) :
    Calls Tryd.prog 65 #[.pointer (some ⟨b, pre.length, none⟩), prm256, .string data] w (WPost32 K b ty pre post st rest data len w) := by
  have hinv := WInv32.begin hrun hK hbk
  have HV := Lib.hid hinv
  have cl := hinv.cellLen
  have cr := hinv.cellRest
  have fl := hinv.frozen (pre.length + 9)
  have hre : rest.toList = [] := by
    rw [Lib.toList_data]; apply List.eq_nil_of_length_eq_zero; rw [← Lib.size_eq]; exact hr
  have hre2 : rest.toList.isEmpty = true := by rw [hre]; rfl
  have HR0 := Lib.hid (show rest.data.toList = [] from by rw [← Lib.toList_data]; exact hre)
  clear hinv hrun hK hr
  go_enter Tryd.func65, Tryd.ntmps65
  go_wp2_with fail
  replace HV := Lib.hid (HV.out.setLen (len + data.size))
  clear cl cr fl hre hre2
  generalize World.setCell _ _ _ = W at *
  generalize w.heap.size = Bp at *
  go_loopw [2] (fun d wr => ∃ (x : ByteArray) (s' : W8) (r' : ByteArray), d = .string x ∧ x.size ≤ 1099511627776 ∧ Hid (full32 (fun t => K t / 4294967296) st (rest.data.toList ++ data.data.toList) = full32 (fun t => K t / 4294967296) s' x.data.toList) ∧
      Hid (tail64 (rest.data.toList ++ data.data.toList) = tail64 x.data.toList) ∧ WInv32 K b Bp ty pre post w wr s' r' (len + data.size)) (fun d _ => strOf d)
  case atStart => exact ⟨data, st, rest, rfl, hs, Lib.hid (by rw [HR0.out]; rfl), Lib.hid (by rw [HR0.out]; rfl), HV.out⟩
  case round =>
    clear HV
    obtain ⟨x, s', r', rfl, hx, HF, HT, hv⟩ := hrel
    have HV := Lib.hid hv
    clear hv
    have cp := HV.out.prm.cells.1
    by_cases hlt : 64 ≤ x.size
    · have hdd : decide ((64 : Int) ≤ (x.size : Int)) = true := by simp; omega
      go_wp2_with fail
      clear cp
      obtain ⟨c0, c1, c2, c3, c4, c5, c6, c7, c8, c9, c10, c11, c12, c13⟩ := HV.out.prm.cells
      have k0 := cell_regrown c0; have k1 := cell_regrown c1; have k2 := cell_regrown c2; have k3 := cell_regrown c3; have k4 := cell_regrown c4
      have k5 := cell_regrown c5; have k6 := cell_regrown c6; have k7 := cell_regrown c7; have k8 := cell_regrown c8; have k9 := cell_regrown c9
      have k10 := cell_regrown c10; have k11 := cell_regrown c11; have k12 := cell_regrown c12; have k13 := cell_regrown c13
      have m0 := cell_regrown (HV.out.cellState 0 (by omega)); have m1 := cell_regrown (HV.out.cellState 1 (by omega)); have m2 := cell_regrown (HV.out.cellState 2 (by omega)); have m3 := cell_regrown (HV.out.cellState 3 (by omega))
      have m4 := cell_regrown (HV.out.cellState 4 (by omega)); have m5 := cell_regrown (HV.out.cellState 5 (by omega)); have m6 := cell_regrown (HV.out.cellState 6 (by omega)); have m7 := cell_regrown (HV.out.cellState 7 (by omega))
      simp only [W8.at, Nat.add_zero] at m0 m1 m2 m3 m4 m5 m6 m7
      have hxe : (x.extract 0 64).size = 64 := by simp; omega
      have HXE := Lib.hid hxe
      clear hxe c0 c1 c2 c3 c4 c5 c6 c7 c8 c9 c10 c11 c12 c13
      refine wp_region_reads_tail 13 (by kernel_rfl) (by kernel_rfl) ?_
      simp only [List.take_succ_cons, List.take_zero, List.drop_succ_cons, List.drop_zero]
      repeat (first | go_big_quiet_step ((go_at_call 77; exact Calls.regrown_of (compress32_any K s' (x.extract 0 64) _ (by rw [HXE.out]; omega) (by rw [HXE.out]; omega) (HV.out.tab.below (below_regrown _ _ _) HV.out.tab.lt)))) | quiet_step ((go_at_call 77; exact Calls.regrown_of (compress32_any K s' (x.extract 0 64) _ (by rw [HXE.out]; omega) (by rw [HXE.out]; omega) (HV.out.tab.below (below_regrown _ _ _) HV.out.tab.lt)))))
      refine wpQuiet_nil ?_
      intro W2 hb2
      replace HV := Lib.hid (HV.out.step hb2)
      clear k0 k1 k2 k3 k4 k5 k6 k7 k8 k9 k10 k11 k12 k13 m0 m1 m2 m3 m4 m5 m6 m7 hb2
      generalize hs2 : comp32 (fun t => K t / 4294967296) s' (x.extract 0 64).data.toList = s2 at *
      have HS2 := Lib.hid hs2
      clear hs2
      have HT8 := Lib.hid (show W2.there b pre.length s2.cells32.size from HV.out.there)
      have HI8 := Lib.hid (show (Tryd.prog.info? 75).map (·.size) = some s2.cells32.size from (zero_of_info info8_32).2)
      have H18 := Lib.hid (show s2.cells32.all (·.oneCell') = true from by simp [Value.oneCell'])
      refine wpList_store_mid rfl 75 _ _ rfl b pre.length s2.cells32 rfl rfl HT8.out HI8.out H18.out ?_
      replace HV := Lib.hid (HV.out.setState s2)
      clear HT8 HI8 H18
      generalize World.setCells _ _ _ _ = W3 at *
      simp only [Act.put]
      have cp := HV.out.prm.cells.1
      go_wp2_with fail
      go_roundw
      case rel =>
        have hl : 64 ≤ x.data.toList.length := by rw [← Lib.size_eq]; exact hlt
        have hf := full32_long (fun t => K t / 4294967296) s' x.data.toList hl
        refine ⟨x.extract 64 x.size, s2, r', rfl, by simp; omega, Lib.hid ?_, Lib.hid ?_, HV.out⟩
        · rw [HF.out, hf.1, ← HS2.out, Lib.extract_data, Lib.extract_data, List.drop_zero, List.take_of_length_le (l := List.drop 64 x.data.toList) (by simp)]
        · rw [HT.out, hf.2, Lib.extract_data, List.take_of_length_le (l := List.drop 64 x.data.toList) (by simp)]
      case measure => simp [strOf]; omega
    · have hdd : decide ((64 : Int) ≤ (x.size : Int)) = false := by simp; omega
      go_wp2_with (go_at_call 78; refine (clone_any _ _ hx).mono ?_; rintro e W2 ⟨rfl, hb2⟩; replace HV := Lib.hid (HV.out.step hb2); clear hb2; have cr := HV.out.cellRest; have fr := HV.out.frozen (pre.length + 8))
      go_end0
      replace HV := Lib.hid (HV.out.setRest x)
      have hl : x.data.toList.length < 64 := by rw [← Lib.size_eq]; omega
      have hf := full32_short (fun t => K t / 4294967296) s' x.data.toList hl
      refine ⟨rfl, x, ?_, ?_, HV.out.but⟩
      · rw [HT.out, hf.2]
      · rw [HF.out, hf.1]; exact HV.out.run

set_option maxHeartbeats 1000000 in
set_option maxRecDepth 100000 in
/-- The data fills the block that was begun. -/
theorem write32_long (K : Nat → Int) (b : Nat) (ty : TypeId) (pre post : List Value) (st : W8) (rest data : ByteArray) (len : Int) (w : World)
    (hrun : w.heap[b]? = some (.cells (rc32 pre post st rest len) ty)) (hK : TabK w K) (hbk : b ≠ 1)
    (hr : 0 < rest.size) (hr' : rest.size < 64) (hs : 64 ≤ rest.size + data.size) (hd : data.size ≤ 1099511627776) (h0 : 0 ≤ len) (h1 : len ≤ 1099511627776) :
    Calls Tryd.prog 65 #[.pointer (some ⟨b, pre.length, none⟩), prm256, .string data] w (WPost32 K b ty pre post st rest data len w) := by
  have hinv := WInv32.begin hrun hK hbk
  have HV := Lib.hid hinv
  have cl := hinv.cellLen
  have cr := hinv.cellRest
  have fl := hinv.frozen (pre.length + 9)
  have hre : rest.toList.isEmpty = false := by
    cases h : rest.toList.isEmpty with
    | false => rfl
    | true =>
      rw [List.isEmpty_iff] at h
      have : rest.size = 0 := by rw [Lib.size_eq, ← Lib.toList_data, h]; rfl
      omega
  clear hinv hrun hK
  go_enter Tryd.func65, Tryd.ntmps65
  go_wp2_with fail
  replace HV := Lib.hid (HV.out.setLen (len + data.size))
  clear cl cr fl
  generalize World.setCell _ _ _ = W at *
  generalize w.heap.size = Bp at *
  obtain ⟨n, hn⟩ : ∃ n : Nat, n + rest.size = 64 := ⟨64 - rest.size, by omega⟩
  have hmin : ¬ (data.size : Int) < 64 - (rest.size : Int) := by omega
  have hnn : (64 : Int) - (rest.size : Int) = (n : Int) := by omega
  have hnd : (n : Int) ≤ (data.size : Int) := by omega
  have HN := Lib.hid hn
  clear hn
  have cr := HV.out.cellRest
  have cp := HV.out.prm.cells.1
  have kr := cell_regrown cr; have kp := cell_regrown cp
  refine wp_region_reads (by kernel_rfl) (by kernel_rfl) ?_
  repeat (first | go_big_quiet_step (fail) | quiet_step (fail))
  refine wpQuiet_nil ?_
  intro W1 hb1
  replace HV := Lib.hid (HV.out.step hb1)
  clear cr cp kr kp hb1
  go_wp2_with fail
  have cr := HV.out.cellRest
  have kr := cell_regrown cr
  have hsum : rest.size + min n data.size ≤ 9223372036854775807 := by omega
  refine wp_region_reads_tail 10 (by kernel_rfl) (by kernel_rfl) ?_
  simp only [List.take_succ_cons, List.take_zero, List.drop_succ_cons, List.drop_zero]
  repeat (first | go_big_quiet_step (fail) | quiet_step (fail))
  refine wpQuiet_nil ?_
  intro W2 hb2
  replace HV := Lib.hid (HV.out.step hb2)
  clear cr kr hb2
  have hL1 : (rest ++ data.extract 0 n).data.toList = (rest.data.toList ++ data.data.toList).take 64 := by
    have e1 : (rest ++ data.extract 0 n).data.toList = rest.data.toList ++ (data.extract 0 n).data.toList := by simp
    have e2 : 64 - rest.data.toList.length = n := by rw [← Lib.size_eq]; have := HN.out; omega
    rw [e1, Lib.extract_data, List.drop_zero, List.take_append, e2, List.take_of_length_le (l := rest.data.toList) (by rw [← Lib.size_eq]; omega)]
    simp
  have hL2 : (data.extract n data.size).data.toList = (rest.data.toList ++ data.data.toList).drop 64 := by
    have e2 : 64 - rest.data.toList.length = n := by rw [← Lib.size_eq]; have := HN.out; omega
    rw [Lib.extract_data, List.drop_append, e2, List.drop_of_length_le (l := rest.data.toList) (by rw [← Lib.size_eq]; omega), List.nil_append, List.take_of_length_le (by simp)]
  have hz2 : (data.extract n data.size).size ≤ 1099511627776 := by simp; omega
  have hz1 : (rest ++ data.extract 0 n).size = 64 := by rw [Lib.size_eq, hL1, List.length_take, List.length_append, ← Lib.size_eq, ← Lib.size_eq]; omega
  have cr := HV.out.cellRest
  have fr := HV.out.frozen (pre.length + 8)
  have H1 := Lib.hid hL1; have H2 := Lib.hid hL2; have H3 := Lib.hid hz1; have H4 := Lib.hid hz2
  clear hL1 hL2 hz1 hz2
  go_wp2_with fail
  replace HV := Lib.hid (HV.out.setRest (rest ++ data.extract 0 n))
  generalize rest ++ data.extract 0 n = r1 at *
  generalize data.extract n data.size = d1 at *
  clear cr fr
  generalize World.setCell _ _ _ = W3 at *
  have hdd : decide ((r1.size : Int) < 64) = false := by have := H3.out; simp; omega
  have cr := HV.out.cellRest
  have cp := HV.out.prm.cells.1
  have kr := cell_regrown cr; have kp := cell_regrown cp
  refine wp_region_reads (by kernel_rfl) (by kernel_rfl) ?_
  repeat (first | go_big_quiet_step (fail) | quiet_step (fail))
  refine wpQuiet_nil ?_
  intro W4 hb4
  replace HV := Lib.hid (HV.out.step hb4)
  clear cr cp kr kp hb4
  go_wp2_with fail
  obtain ⟨c0, c1, c2, c3, c4, c5, c6, c7, c8, c9, c10, c11, c12, c13⟩ := HV.out.prm.cells
  have k0 := cell_regrown c0; have k1 := cell_regrown c1; have k2 := cell_regrown c2; have k3 := cell_regrown c3; have k4 := cell_regrown c4
  have k5 := cell_regrown c5; have k6 := cell_regrown c6; have k7 := cell_regrown c7; have k8 := cell_regrown c8; have k9 := cell_regrown c9
  have k10 := cell_regrown c10; have k11 := cell_regrown c11; have k12 := cell_regrown c12; have k13 := cell_regrown c13
  have m0 := cell_regrown (HV.out.cellState 0 (by omega)); have m1 := cell_regrown (HV.out.cellState 1 (by omega)); have m2 := cell_regrown (HV.out.cellState 2 (by omega)); have m3 := cell_regrown (HV.out.cellState 3 (by omega))
  have m4 := cell_regrown (HV.out.cellState 4 (by omega)); have m5 := cell_regrown (HV.out.cellState 5 (by omega)); have m6 := cell_regrown (HV.out.cellState 6 (by omega)); have m7 := cell_regrown (HV.out.cellState 7 (by omega))
  have m8 := cell_regrown HV.out.cellRest
  simp only [W8.at, Nat.add_zero] at m0 m1 m2 m3 m4 m5 m6 m7
  clear c0 c1 c2 c3 c4 c5 c6 c7 c8 c9 c10 c11 c12 c13
  refine wp_region_reads_tail 13 (by kernel_rfl) (by kernel_rfl) ?_
  simp only [List.take_succ_cons, List.take_zero, List.drop_succ_cons, List.drop_zero]
  repeat (first | go_big_quiet_step ((go_at_call 77; exact Calls.regrown_of (compress32_any K st r1 _ (by rw [H3.out]; omega) (by rw [H3.out]; omega) (HV.out.tab.below (below_regrown _ _ _) HV.out.tab.lt)))) | quiet_step ((go_at_call 77; exact Calls.regrown_of (compress32_any K st r1 _ (by rw [H3.out]; omega) (by rw [H3.out]; omega) (HV.out.tab.below (below_regrown _ _ _) HV.out.tab.lt)))))
  refine wpQuiet_nil ?_
  intro W5 hb5
  replace HV := Lib.hid (HV.out.step hb5)
  clear k0 k1 k2 k3 k4 k5 k6 k7 k8 k9 k10 k11 k12 k13 m0 m1 m2 m3 m4 m5 m6 m7 m8 hb5
  generalize hs2 : comp32 (fun t => K t / 4294967296) st r1.data.toList = s2 at *
  have HS2 := Lib.hid hs2
  clear hs2
  have HT8 := Lib.hid (show W5.there b pre.length s2.cells32.size from HV.out.there)
  have HI8 := Lib.hid (show (Tryd.prog.info? 75).map (·.size) = some s2.cells32.size from (zero_of_info info8_32).2)
  have H18 := Lib.hid (show s2.cells32.all (·.oneCell') = true from by simp [Value.oneCell'])
  refine wpList_store_mid rfl 75 _ _ rfl b pre.length s2.cells32 rfl rfl HT8.out HI8.out H18.out ?_
  replace HV := Lib.hid (HV.out.setState s2)
  clear HT8 HI8 H18
  generalize World.setCells _ _ _ _ = W6 at *
  simp only [Act.put]
  have HLL := Lib.hid (full32_long (fun t => K t / 4294967296) st (rest.data.toList ++ data.data.toList) (by rw [List.length_append, ← Lib.size_eq, ← Lib.size_eq]; exact hs))
  clear hdd hmin hnn hnd hsum
  go_wp2_with fail
  go_loopw [2] (fun d wr => ∃ (x : ByteArray) (s' : W8) (r' : ByteArray), d = .string x ∧ x.size ≤ 1099511627776 ∧ Hid (full32 (fun t => K t / 4294967296) st (rest.data.toList ++ data.data.toList) = full32 (fun t => K t / 4294967296) s' x.data.toList) ∧
      Hid (tail64 (rest.data.toList ++ data.data.toList) = tail64 x.data.toList) ∧ WInv32 K b Bp ty pre post w wr s' r' (len + data.size)) (fun d _ => strOf d)
  case atStart => exact ⟨d1, s2, r1, rfl, H4.out, Lib.hid (by rw [HLL.out.1, ← H1.out, HS2.out, ← H2.out]), Lib.hid (by rw [HLL.out.2, ← H2.out]), HV.out⟩
  case round =>
    clear HV
    obtain ⟨x, s', r', rfl, hx, HF, HT, hv⟩ := hrel
    have HV := Lib.hid hv
    clear hv
    have cp := HV.out.prm.cells.1
    by_cases hlt : 64 ≤ x.size
    · have hdd : decide ((64 : Int) ≤ (x.size : Int)) = true := by simp; omega
      go_wp2_with fail
      clear cp
      obtain ⟨c0, c1, c2, c3, c4, c5, c6, c7, c8, c9, c10, c11, c12, c13⟩ := HV.out.prm.cells
      have k0 := cell_regrown c0; have k1 := cell_regrown c1; have k2 := cell_regrown c2; have k3 := cell_regrown c3; have k4 := cell_regrown c4
      have k5 := cell_regrown c5; have k6 := cell_regrown c6; have k7 := cell_regrown c7; have k8 := cell_regrown c8; have k9 := cell_regrown c9
      have k10 := cell_regrown c10; have k11 := cell_regrown c11; have k12 := cell_regrown c12; have k13 := cell_regrown c13
      have m0 := cell_regrown (HV.out.cellState 0 (by omega)); have m1 := cell_regrown (HV.out.cellState 1 (by omega)); have m2 := cell_regrown (HV.out.cellState 2 (by omega)); have m3 := cell_regrown (HV.out.cellState 3 (by omega))
      have m4 := cell_regrown (HV.out.cellState 4 (by omega)); have m5 := cell_regrown (HV.out.cellState 5 (by omega)); have m6 := cell_regrown (HV.out.cellState 6 (by omega)); have m7 := cell_regrown (HV.out.cellState 7 (by omega))
      simp only [W8.at, Nat.add_zero] at m0 m1 m2 m3 m4 m5 m6 m7
      have hxe : (x.extract 0 64).size = 64 := by simp; omega
      have HXE := Lib.hid hxe
      clear hxe c0 c1 c2 c3 c4 c5 c6 c7 c8 c9 c10 c11 c12 c13
      refine wp_region_reads_tail 13 (by kernel_rfl) (by kernel_rfl) ?_
      simp only [List.take_succ_cons, List.take_zero, List.drop_succ_cons, List.drop_zero]
      repeat (first | go_big_quiet_step ((go_at_call 77; exact Calls.regrown_of (compress32_any K s' (x.extract 0 64) _ (by rw [HXE.out]; omega) (by rw [HXE.out]; omega) (HV.out.tab.below (below_regrown _ _ _) HV.out.tab.lt)))) | quiet_step ((go_at_call 77; exact Calls.regrown_of (compress32_any K s' (x.extract 0 64) _ (by rw [HXE.out]; omega) (by rw [HXE.out]; omega) (HV.out.tab.below (below_regrown _ _ _) HV.out.tab.lt)))))
      refine wpQuiet_nil ?_
      intro W2 hb2
      replace HV := Lib.hid (HV.out.step hb2)
      clear k0 k1 k2 k3 k4 k5 k6 k7 k8 k9 k10 k11 k12 k13 m0 m1 m2 m3 m4 m5 m6 m7 hb2
      generalize hs2 : comp32 (fun t => K t / 4294967296) s' (x.extract 0 64).data.toList = s2 at *
      have HS2 := Lib.hid hs2
      clear hs2
      have HT8 := Lib.hid (show W2.there b pre.length s2.cells32.size from HV.out.there)
      have HI8 := Lib.hid (show (Tryd.prog.info? 75).map (·.size) = some s2.cells32.size from (zero_of_info info8_32).2)
      have H18 := Lib.hid (show s2.cells32.all (·.oneCell') = true from by simp [Value.oneCell'])
      refine wpList_store_mid rfl 75 _ _ rfl b pre.length s2.cells32 rfl rfl HT8.out HI8.out H18.out ?_
      replace HV := Lib.hid (HV.out.setState s2)
      clear HT8 HI8 H18
      generalize World.setCells _ _ _ _ = W3 at *
      simp only [Act.put]
      have cp := HV.out.prm.cells.1
      go_wp2_with fail
      go_roundw
      case rel =>
        have hl : 64 ≤ x.data.toList.length := by rw [← Lib.size_eq]; exact hlt
        have hf := full32_long (fun t => K t / 4294967296) s' x.data.toList hl
        refine ⟨x.extract 64 x.size, s2, r', rfl, by simp; omega, Lib.hid ?_, Lib.hid ?_, HV.out⟩
        · rw [HF.out, hf.1, ← HS2.out, Lib.extract_data, Lib.extract_data, List.drop_zero, List.take_of_length_le (l := List.drop 64 x.data.toList) (by simp)]
        · rw [HT.out, hf.2, Lib.extract_data, List.take_of_length_le (l := List.drop 64 x.data.toList) (by simp)]
      case measure => simp [strOf]; omega
    · have hdd : decide ((64 : Int) ≤ (x.size : Int)) = false := by simp; omega
      go_wp2_with (go_at_call 78; refine (clone_any _ _ hx).mono ?_; rintro e W2 ⟨rfl, hb2⟩; replace HV := Lib.hid (HV.out.step hb2); clear hb2; have cr := HV.out.cellRest; have fr := HV.out.frozen (pre.length + 8))
      go_end0
      replace HV := Lib.hid (HV.out.setRest x)
      have hl : x.data.toList.length < 64 := by rw [← Lib.size_eq]; omega
      have hf := full32_short (fun t => K t / 4294967296) s' x.data.toList hl
      refine ⟨rfl, x, ?_, ?_, HV.out.but⟩
      · rw [HT.out, hf.2]
      · rw [HF.out, hf.1]; exact HV.out.run

theorem write32_any (K : Nat → Int) (b : Nat) (ty : TypeId) (pre post : List Value) (st : W8) (rest data : ByteArray) (len : Int) (w : World)
    (hrun : w.heap[b]? = some (.cells (rc32 pre post st rest len) ty)) (hK : TabK w K) (hbk : b ≠ 1)
    (hr : rest.size < 64) (hd : data.size ≤ 1099511627776) (h0 : 0 ≤ len) (h1 : len ≤ 1099511627776) :
    Calls Tryd.prog 65 #[.pointer (some ⟨b, pre.length, none⟩), prm256, .string data] w (WPost32 K b ty pre post st rest data len w) := by
  by_cases hz : rest.size = 0
  · exact write32_none K b ty pre post st rest data len w hrun hK hbk hz hd h0 h1
  · by_cases hs : rest.size + data.size < 64
    · exact write32_short K b ty pre post st rest data len w hrun hK hbk (by omega) hs h0 h1
    · exact write32_long K b ty pre post st rest data len w hrun hK hbk (by omega) hr (by omega) hd h0 h1
end

section
open Go.RowKit Go.Sort
set_option maxRecDepth 100000
set_option linter.unusedSimpArgs false
set_option linter.unusedVariables false

/-- The cells of a block in whose midst a running digest lies. -/
def rc64 (pre post : List Value) (st : W8) (rest : ByteArray) (len : Int) : Array Value :=
  (pre ++ (Value.int .u64 st.a :: Value.int .u64 st.b :: Value.int .u64 st.c :: Value.int .u64 st.d :: Value.int .u64 st.e :: Value.int .u64 st.f :: Value.int .u64 st.g :: Value.int .u64 st.h :: Value.string rest :: Value.int .u64 len :: post)).toArray

theorem rc64_state (pre post : List Value) (st : W8) (rest : ByteArray) (len : Int) (j : Nat) (hj : j < 8) : (rc64 pre post st rest len)[pre.length + j]? = some (.int .u64 (st.at j)) := by
  rcases lt8 hj with rfl | rfl | rfl | rfl | rfl | rfl | rfl | rfl <;> simp [rc64, W8.at]
theorem rc64_rest (pre post : List Value) (st : W8) (rest : ByteArray) (len : Int) : (rc64 pre post st rest len)[pre.length + 8]? = some (.string rest) := by
  simp [rc64]
theorem rc64_len (pre post : List Value) (st : W8) (rest : ByteArray) (len : Int) : (rc64 pre post st rest len)[pre.length + 9]? = some (.int .u64 len) := by
  simp [rc64]
theorem rc64_setLen (pre post : List Value) (st : W8) (rest : ByteArray) (len x : Int) : (rc64 pre post st rest len).setIfInBounds (pre.length + 9) (.int .u64 x) = rc64 pre post st rest x := by
  simp [rc64, List.set_append]
theorem rc64_setRest (pre post : List Value) (st : W8) (rest x : ByteArray) (len : Int) : (rc64 pre post st rest len).setIfInBounds (pre.length + 8) (.string x) = rc64 pre post st x len := by
  simp [rc64, List.set_append]
theorem rc64_setState {w : World} {b : Nat} {ty : TypeId} (pre post : List Value) (st st' : W8) (rest : ByteArray) (len : Int) (h : w.heap[b]? = some (.cells (rc64 pre post st rest len) ty)) :
    (w.setCells b pre.length st'.cells64.toList).heap[b]? = some (.cells (rc64 pre post st' rest len) ty) := by
  rw [show st'.cells64.toList = [.int .u64 st'.a, .int .u64 st'.b, .int .u64 st'.c, .int .u64 st'.d, .int .u64 st'.e, .int .u64 st'.f, .int .u64 st'.g, .int .u64 st'.h] from rfl]
  simp only [World.setCells]
  have h0 := heap_setCell_same w b pre.length _ ty (.int .u64 st'.a) h
  have h1 := heap_setCell_same _ b (pre.length + 1) _ ty (.int .u64 st'.b) h0
  have h2 := heap_setCell_same _ b (pre.length + 1 + 1) _ ty (.int .u64 st'.c) h1
  have h3 := heap_setCell_same _ b (pre.length + 1 + 1 + 1) _ ty (.int .u64 st'.d) h2
  have h4 := heap_setCell_same _ b (pre.length + 1 + 1 + 1 + 1) _ ty (.int .u64 st'.e) h3
  have h5 := heap_setCell_same _ b (pre.length + 1 + 1 + 1 + 1 + 1) _ ty (.int .u64 st'.f) h4
  have h6 := heap_setCell_same _ b (pre.length + 1 + 1 + 1 + 1 + 1 + 1) _ ty (.int .u64 st'.g) h5
  have h7 := heap_setCell_same _ b (pre.length + 1 + 1 + 1 + 1 + 1 + 1 + 1) _ ty (.int .u64 st'.h) h6
  rw [h7]
  simp [rc64, List.set_append, Nat.add_assoc]

/-- The blocks of a text, one behind the other. -/
def fold64 (K : Nat → Int) (st : W8) (l : List UInt8) : Nat → W8
  | 0 => st
  | n + 1 => comp64 K (fold64 K st l n) ((l.drop (128 * n)).take 128)
theorem fold64_succ (K : Nat → Int) (st : W8) (l : List UInt8) (n : Nat) : fold64 K st l (n + 1) = fold64 K (comp64 K st (l.take 128)) (l.drop 128) n := by
  induction n with
  | zero => simp [fold64]
  | succ n ih =>
    rw [fold64, ih, fold64, List.drop_drop, show 128 + 128 * n = 128 * (n + 1) by omega]
/-- What is left of a text behind its whole blocks. -/
def tail128 (l : List UInt8) : List UInt8 := l.drop (128 * (l.length / 128))
def full64 (K : Nat → Int) (st : W8) (l : List UInt8) : W8 := fold64 K st l (l.length / 128)
theorem full64_short (K : Nat → Int) (st : W8) (l : List UInt8) (h : l.length < 128) : full64 K st l = st ∧ tail128 l = l := by
  have : l.length / 128 = 0 := by omega
  simp [full64, tail128, this, fold64]
theorem full64_long (K : Nat → Int) (st : W8) (l : List UInt8) (h : 128 ≤ l.length) : full64 K st l = full64 K (comp64 K st (l.take 128)) (l.drop 128) ∧ tail128 l = tail128 (l.drop 128) := by
  have e : l.length / 128 = (l.length - 128) / 128 + 1 := by omega
  constructor
  · unfold full64
    rw [e, fold64_succ, List.length_drop]
  · unfold tail128
    rw [List.drop_drop, List.length_drop]
    congr 1
    omega
theorem tail128_length (l : List UInt8) : (tail128 l).length < 128 := by
  unfold tail128; rw [List.length_drop]; omega
end

section
open Go.RowKit Go.Sort
set_option maxRecDepth 100000
set_option linter.unusedSimpArgs false
set_option linter.unusedVariables false

structure WInv64 (K : Nat → Int) (b Bp : Nat) (ty : TypeId) (pre post : List Value) (w W : World) (st : W8) (rest : ByteArray) (len : Int) : Prop where
  prm : PrmBt W Bp
  run : W.heap[b]? = some (.cells (rc64 pre post st rest len) ty)
  tab : TabK W K
  but : But b w W
  ne : b ≠ Bp
  nk : b ≠ 1
section
variable {K : Nat → Int} {b Bp : Nat} {ty : TypeId} {pre post : List Value} {w W W' : World} {st : W8} {rest : ByteArray} {len : Int}
theorem WInv64.step (h : WInv64 K b Bp ty pre post w W st rest len) (hb : Below W.heap.size W W') : WInv64 K b Bp ty pre post w W' st rest len :=
  ⟨h.prm.below hb (blk_lt h.prm), blk_below hb (blk_lt h.run) h.run, h.tab.below hb h.tab.lt, h.but.trans (.of_below hb), h.ne, h.nk⟩
theorem WInv64.setLen (h : WInv64 K b Bp ty pre post w W st rest len) (x : Int) : WInv64 K b Bp ty pre post w (W.setCell ⟨b, pre.length + 9, none⟩ (.int .u64 x)) st rest x :=
  ⟨(heap_setCell_other _ _ _ _ (by simpa using h.ne.symm)).trans h.prm, by rw [← rc64_setLen pre post st rest len x]; exact heap_setCell_same _ _ _ _ _ _ h.run,
   fun t ht => (World.cell?_setCell_far _ _ _ _ (by simpa using h.nk)).trans (h.tab t ht), h.but.trans (.setCell b _ _ _ rfl), h.ne, h.nk⟩
theorem WInv64.setRest (h : WInv64 K b Bp ty pre post w W st rest len) (x : ByteArray) : WInv64 K b Bp ty pre post w (W.setCell ⟨b, pre.length + 8, none⟩ (.string x)) st x len :=
  ⟨(heap_setCell_other _ _ _ _ (by simpa using h.ne.symm)).trans h.prm, by rw [← rc64_setRest pre post st rest x len]; exact heap_setCell_same _ _ _ _ _ _ h.run,
   fun t ht => (World.cell?_setCell_far _ _ _ _ (by simpa using h.nk)).trans (h.tab t ht), h.but.trans (.setCell b _ _ _ rfl), h.ne, h.nk⟩
theorem WInv64.setState (h : WInv64 K b Bp ty pre post w W st rest len) (st' : W8) : WInv64 K b Bp ty pre post w (W.setCells b pre.length st'.cells64.toList) st' rest len :=
  ⟨((But.setCells b _ _ _).block _ (blk_lt h.prm) h.ne.symm).trans h.prm, rc64_setState pre post st st' rest len h.run,
   fun t ht => (World.cell?_setCells_out _ _ _ _ _ (fun e _ => absurd e.symm h.nk)).trans (h.tab t ht), h.but.trans (.setCells b _ _ _), h.ne, h.nk⟩
theorem WInv64.cellLen (h : WInv64 K b Bp ty pre post w W st rest len) : W.cell? ⟨b, pre.length + 9, none⟩ = some (.int .u64 len) := by rw [cell_of_row W _ _ _ _ _ h.run]; exact rc64_len ..
theorem WInv64.cellRest (h : WInv64 K b Bp ty pre post w W st rest len) : W.cell? ⟨b, pre.length + 8, none⟩ = some (.string rest) := by rw [cell_of_row W _ _ _ _ _ h.run]; exact rc64_rest ..
theorem WInv64.cellState (h : WInv64 K b Bp ty pre post w W st rest len) (j : Nat) (hj : j < 8) : W.cell? ⟨b, pre.length + j, none⟩ = some (.int .u64 (st.at j)) := by rw [cell_of_row W _ _ _ _ _ h.run]; exact rc64_state _ _ _ _ _ _ hj
theorem WInv64.frozen (h : WInv64 K b Bp ty pre post w W st rest len) (j : Nat) : W.frozen? ⟨b, j, none⟩ = false := frozen_of_row W _ _ _ _ h.run
theorem WInv64.there (h : WInv64 K b Bp ty pre post w W st rest len) : W.there b pre.length 8 := fun j hj => ⟨by rw [h.cellState j hj]; rfl, h.frozen _⟩
end

def WPost64 (K : Nat → Int) (b : Nat) (ty : TypeId) (pre post : List Value) (st : W8) (rest data : ByteArray) (len : Int) (w : World) (e : Ending) (w' : World) : Prop :=
  e = .returned (.tuple #[]) ∧ ∃ rest' : ByteArray, rest'.data.toList = tail128 (rest.data.toList ++ data.data.toList) ∧
      w'.heap[b]? = some (.cells (rc64 pre post (full64 (fun t => K t) st (rest.data.toList ++ data.data.toList)) rest' (len + data.size)) ty) ∧ But b w w'

theorem WInv64.begin {K : Nat → Int} {b : Nat} {ty : TypeId} {pre post : List Value} {st : W8} {rest : ByteArray} {len : Int} {w : World}
    (hrun : w.heap[b]? = some (.cells (rc64 pre post st rest len) ty)) (hK : TabK w K) (hbk : b ≠ 1) :
    WInv64 K b w.heap.size ty pre post w (w.alloc (.cells #[.int .i64 128, .int .i64 80, .int .u64 1, .int .u64 8, .int .u64 7, .int .u64 19, .int .u64 61, .int .u64 6, .int .u64 14, .int .u64 18, .int .u64 41, .int .u64 28, .int .u64 34, .int .u64 39] 49)) st rest len :=
  ⟨blk_new w _, blk_old hrun, hK.below (below_new w _) hK.lt, .of_below (below_new w _), Nat.ne_of_lt (blk_lt hrun), hbk⟩

/-- The data does not fill the block that was begun. -/
theorem write64_short (K : Nat → Int) (b : Nat) (ty : TypeId) (pre post : List Value) (st : W8) (rest data : ByteArray) (len : Int) (w : World)
    (hrun : w.heap[b]? = some (.cells (rc64 pre post st rest len) ty)) (hK : TabK w K) (hbk : b ≠ 1)
    (hr : 0 < rest.size) (hs : rest.size + data.size < 128) (h0 : 0 ≤ len) (h1 : len ≤ 1099511627776) :
    Calls Tryd.prog 95 #[.pointer (some ⟨b, pre.length, none⟩), prm512, .string data] w (WPost64 K b ty pre post st rest data len w) := by
  have hinv := WInv64.begin hrun hK hbk
  have HV := Lib.hid hinv
  have cl := hinv.cellLen
  have cr := hinv.cellRest
  have fl := hinv.frozen (pre.length + 9)
  have hre : rest.toList.isEmpty = false := by
    cases h : rest.toList.isEmpty with
    | false => rfl
    | true =>
      rw [List.isEmpty_iff] at h
      have : rest.size = 0 := by rw [Lib.size_eq, ← Lib.toList_data, h]; rfl
      omega
  clear hinv hrun hK
  go_enter Tryd.func95, Tryd.ntmps95
  go_wp2_with fail
  replace HV := Lib.hid (HV.out.setLen (len + data.size))
  clear cl cr fl
  generalize World.setCell _ _ _ = W at *
  generalize w.heap.size = Bp at *
  have hmin : (data.size : Int) < 128 - (rest.size : Int) := by omega
  · have cr := HV.out.cellRest
    have cp := HV.out.prm.cells.1
    have kr := cell_regrown cr; have kp := cell_regrown cp
    refine wp_region_reads (by kernel_rfl) (by kernel_rfl) ?_
    repeat (first | go_big_quiet_step (fail) | quiet_step (fail))
    refine wpQuiet_nil ?_
    intro W1 hb1
    replace HV := Lib.hid (HV.out.step hb1)
    clear cr cp kr kp hb1
    go_wp2_with fail
    have cr := HV.out.cellRest
    have fr := HV.out.frozen (pre.length + 8)
    have kr := cell_regrown cr
    refine wp_region_reads_tail 10 (by kernel_rfl) (by kernel_rfl) ?_
    simp only [List.take_succ_cons, List.take_zero, List.drop_succ_cons, List.drop_zero]
    repeat (first | go_big_quiet_step (fail) | quiet_step (fail))
    refine wpQuiet_nil ?_
    intro W2 hb2
    replace HV := Lib.hid (HV.out.step hb2)
    clear cr fr kr hb2
    have cr := HV.out.cellRest
    have fr := HV.out.frozen (pre.length + 8)
    go_wp2_with fail
    replace HV := Lib.hid (HV.out.setRest (rest ++ data))
    clear cr fr
    generalize World.setCell _ _ _ = W3 at *
    have hlt : decide ((rest.size : Int) + (data.size : Int) < 128) = true := by simp; omega
    have cr := HV.out.cellRest
    have cp := HV.out.prm.cells.1
    have kr := cell_regrown cr; have kp := cell_regrown cp
    refine wp_region_reads (by kernel_rfl) (by kernel_rfl) ?_
    repeat (first | go_big_quiet_step (fail) | quiet_step (fail))
    refine wpQuiet_nil ?_
    intro W4 hb4
    replace HV := Lib.hid (HV.out.step hb4)
    clear cr cp kr kp hb4
    go_wp2_with fail
    go_end0
    have hl : (rest.data.toList ++ data.data.toList).length < 128 := by rw [List.length_append, ← Lib.size_eq, ← Lib.size_eq]; exact hs
    have hf := full64_short (fun t => K t) st _ hl
    refine ⟨rfl, rest ++ data, ?_, ?_, HV.out.but⟩
    · rw [hf.2]; simp
    · rw [hf.1]; exact HV.out.run


set_option maxHeartbeats 1000000 in
set_option maxRecDepth 100000 in
/-- Nothing was begun. -/
theorem write64_none (K : Nat → Int) (b : Nat) (ty : TypeId) (pre post : List Value) (st : W8) (rest data : ByteArray) (len : Int) (w : World)
    (hrun : w.heap[b]? = some (.cells (rc64 pre post st rest len) ty)) (hK : TabK w K) (hbk : b ≠ 1)
    (hr : rest.size = 0) (hs : data.size ≤ 1099511627776) (h0 : 0 ≤ len) (h1 : len ≤ 1099511627776) :
    Calls Tryd.prog 95 #[.pointer (some ⟨b, pre.length, none⟩), prm512, .string data] w (WPost64 K b ty pre post st rest data len w) := by
  have hinv := WInv64.begin hrun hK hbk
  have HV := Lib.hid hinv
  have cl := hinv.cellLen
  have cr := hinv.cellRest
  have fl := hinv.frozen (pre.length + 9)
  have hre : rest.toList = [] := by
    rw [Lib.toList_data]; apply List.eq_nil_of_length_eq_zero; rw [← Lib.size_eq]; exact hr
  have hre2 : rest.toList.isEmpty = true := by rw [hre]; rfl
  have HR0 := Lib.hid (show rest.data.toList = [] from by rw [← Lib.toList_data]; exact hre)
  clear hinv hrun hK hr
  go_enter Tryd.func95, Tryd.ntmps95
  go_wp2_with fail
  replace HV := Lib.hid (HV.out.setLen (len + data.size))
  clear cl cr fl hre hre2
  generalize World.setCell _ _ _ = W at *
  generalize w.heap.size = Bp at *
  go_loopw [2] (fun d wr => ∃ (x : ByteArray) (s' : W8) (r' : ByteArray), d = .string x ∧ x.size ≤ 1099511627776 ∧ Hid (full64 (fun t => K t) st (rest.data.toList ++ data.data.toList) = full64 (fun t => K t) s' x.data.toList) ∧
      Hid (tail128 (rest.data.toList ++ data.data.toList) = tail128 x.data.toList) ∧ WInv64 K b Bp ty pre post w wr s' r' (len + data.size)) (fun d _ => strOf d)
  case atStart => exact ⟨data, st, rest, rfl, hs, Lib.hid (by rw [HR0.out]; rfl), Lib.hid (by rw [HR0.out]; rfl), HV.out⟩
  case round =>
    clear HV
    obtain ⟨x, s', r', rfl, hx, HF, HT, hv⟩ := hrel
    have HV := Lib.hid hv
    clear hv
    have cp := HV.out.prm.cells.1
    by_cases hlt : 128 ≤ x.size
    · have hdd : decide ((128 : Int) ≤ (x.size : Int)) = true := by simp; omega
      go_wp2_with fail
      clear cp
      obtain ⟨c0, c1, c2, c3, c4, c5, c6, c7, c8, c9, c10, c11, c12, c13⟩ := HV.out.prm.cells
      have k0 := cell_regrown c0; have k1 := cell_regrown c1; have k2 := cell_regrown c2; have k3 := cell_regrown c3; have k4 := cell_regrown c4
      have k5 := cell_regrown c5; have k6 := cell_regrown c6; have k7 := cell_regrown c7; have k8 := cell_regrown c8; have k9 := cell_regrown c9
      have k10 := cell_regrown c10; have k11 := cell_regrown c11; have k12 := cell_regrown c12; have k13 := cell_regrown c13
      have m0 := cell_regrown (HV.out.cellState 0 (by omega)); have m1 := cell_regrown (HV.out.cellState 1 (by omega)); have m2 := cell_regrown (HV.out.cellState 2 (by omega)); have m3 := cell_regrown (HV.out.cellState 3 (by omega))
      have m4 := cell_regrown (HV.out.cellState 4 (by omega)); have m5 := cell_regrown (HV.out.cellState 5 (by omega)); have m6 := cell_regrown (HV.out.cellState 6 (by omega)); have m7 := cell_regrown (HV.out.cellState 7 (by omega))
      simp only [W8.at, Nat.add_zero] at m0 m1 m2 m3 m4 m5 m6 m7
      have hxe : (x.extract 0 128).size = 128 := by simp; omega
      have HXE := Lib.hid hxe
      clear hxe c0 c1 c2 c3 c4 c5 c6 c7 c8 c9 c10 c11 c12 c13
      refine wp_region_reads_tail 13 (by kernel_rfl) (by kernel_rfl) ?_
      simp only [List.take_succ_cons, List.take_zero, List.drop_succ_cons, List.drop_zero]
      repeat (first | go_big_quiet_step ((go_at_call 97; exact Calls.regrown_of (compress64_any K s' (x.extract 0 128) _ (by rw [HXE.out]; omega) (by rw [HXE.out]; omega) (HV.out.tab.below (below_regrown _ _ _) HV.out.tab.lt)))) | quiet_step ((go_at_call 97; exact Calls.regrown_of (compress64_any K s' (x.extract 0 128) _ (by rw [HXE.out]; omega) (by rw [HXE.out]; omega) (HV.out.tab.below (below_regrown _ _ _) HV.out.tab.lt)))))
      refine wpQuiet_nil ?_
      intro W2 hb2
      replace HV := Lib.hid (HV.out.step hb2)
      clear k0 k1 k2 k3 k4 k5 k6 k7 k8 k9 k10 k11 k12 k13 m0 m1 m2 m3 m4 m5 m6 m7 hb2
      generalize hs2 : comp64 (fun t => K t) s' (x.extract 0 128).data.toList = s2 at *
      have HS2 := Lib.hid hs2
      clear hs2
      have HT8 := Lib.hid (show W2.there b pre.length s2.cells64.size from HV.out.there)
      have HI8 := Lib.hid (show (Tryd.prog.info? 89).map (·.size) = some s2.cells64.size from (zero_of_info info8_64).2)
      have H18 := Lib.hid (show s2.cells64.all (·.oneCell') = true from by simp [Value.oneCell'])
      refine wpList_store_mid rfl 89 _ _ rfl b pre.length s2.cells64 rfl rfl HT8.out HI8.out H18.out ?_
      replace HV := Lib.hid (HV.out.setState s2)
      clear HT8 HI8 H18
      generalize World.setCells _ _ _ _ = W3 at *
      simp only [Act.put]
      have cp := HV.out.prm.cells.1
      go_wp2_with fail
      go_roundw
      case rel =>
        have hl : 128 ≤ x.data.toList.length := by rw [← Lib.size_eq]; exact hlt
        have hf := full64_long (fun t => K t) s' x.data.toList hl
        refine ⟨x.extract 128 x.size, s2, r', rfl, by simp; omega, Lib.hid ?_, Lib.hid ?_, HV.out⟩
        · rw [HF.out, hf.1, ← HS2.out, Lib.extract_data, Lib.extract_data, List.drop_zero, List.take_of_length_le (l := List.drop 128 x.data.toList) (by simp)]
        · rw [HT.out, hf.2, Lib.extract_data, List.take_of_length_le (l := List.drop 128 x.data.toList) (by simp)]
      case measure => simp [strOf]; omega
    · have hdd : decide ((128 : Int) ≤ (x.size : Int)) = false := by simp; omega
      go_wp2_with (go_at_call 78; refine (clone_any _ _ hx).mono ?_; rintro e W2 ⟨rfl, hb2⟩; replace HV := Lib.hid (HV.out.step hb2); clear hb2; have cr := HV.out.cellRest; have fr := HV.out.frozen (pre.length + 8))
      go_end0
      replace HV := Lib.hid (HV.out.setRest x)
      have hl : x.data.toList.length < 128 := by rw [← Lib.size_eq]; omega
      have hf := full64_short (fun t => K t) s' x.data.toList hl
      refine ⟨rfl, x, ?_, ?_, HV.out.but⟩
      · rw [HT.out, hf.2]
      · rw [HF.out, hf.1]; exact HV.out.run

set_option maxHeartbeats 1000000 in
set_option maxRecDepth 100000 in
/-- The data fills the block that was begun. -/
theorem write64_long (K : Nat → Int) (b : Nat) (ty : TypeId) (pre post : List Value) (st : W8) (rest data : ByteArray) (len : Int) (w : World)
    (hrun : w.heap[b]? = some (.cells (rc64 pre post st rest len) ty)) (hK : TabK w K) (hbk : b ≠ 1)
    (hr : 0 < rest.size) (hr' : rest.size < 128) (hs : 128 ≤ rest.size + data.size) (hd : data.size ≤ 1099511627776) (h0 : 0 ≤ len) (h1 : len ≤ 1099511627776) :
    Calls Tryd.prog 95 #[.pointer (some ⟨b, pre.length, none⟩), prm512, .string data] w (WPost64 K b ty pre post st rest data len w) := by
  have hinv := WInv64.begin hrun hK hbk
  have HV := Lib.hid hinv
  have cl := hinv.cellLen
  have cr := hinv.cellRest
  have fl := hinv.frozen (pre.length + 9)
  have hre : rest.toList.isEmpty = false := by
    cases h : rest.toList.isEmpty with
    | false => rfl
    | true =>
      rw [List.isEmpty_iff] at h
      have : rest.size = 0 := by rw [Lib.size_eq, ← Lib.toList_data, h]; rfl
      omega
  clear hinv hrun hK
  go_enter Tryd.func95, Tryd.ntmps95
  go_wp2_with fail
  replace HV := Lib.hid (HV.out.setLen (len + data.size))
  clear cl cr fl
  generalize World.setCell _ _ _ = W at *
  generalize w.heap.size = Bp at *
  obtain ⟨n, hn⟩ : ∃ n : Nat, n + rest.size = 128 := ⟨128 - rest.size, by omega⟩
  have hmin : ¬ (data.size : Int) < 128 - (rest.size : Int) := by omega
  have hnn : (128 : Int) - (rest.size : Int) = (n : Int) := by omega
  have hnd : (n : Int) ≤ (data.size : Int) := by omega
  have HN := Lib.hid hn
  clear hn
  have cr := HV.out.cellRest
  have cp := HV.out.prm.cells.1
  have kr := cell_regrown cr; have kp := cell_regrown cp
  refine wp_region_reads (by kernel_rfl) (by kernel_rfl) ?_
  repeat (first | go_big_quiet_step (fail) | quiet_step (fail))
  refine wpQuiet_nil ?_
  intro W1 hb1
  replace HV := Lib.hid (HV.out.step hb1)
  clear cr cp kr kp hb1
  go_wp2_with fail
  have cr := HV.out.cellRest
  have kr := cell_regrown cr
  have hsum : rest.size + min n data.size ≤ 9223372036854775807 := by omega
  refine wp_region_reads_tail 10 (by kernel_rfl) (by kernel_rfl) ?_
  simp only [List.take_succ_cons, List.take_zero, List.drop_succ_cons, List.drop_zero]
  repeat (first | go_big_quiet_step (fail) | quiet_step (fail))
  refine wpQuiet_nil ?_
  intro W2 hb2
  replace HV := Lib.hid (HV.out.step hb2)
  clear cr kr hb2
  have hL1 : (rest ++ data.extract 0 n).data.toList = (rest.data.toList ++ data.data.toList).take 128 := by
    have e1 : (rest ++ data.extract 0 n).data.toList = rest.data.toList ++ (data.extract 0 n).data.toList := by simp
    have e2 : 128 - rest.data.toList.length = n := by rw [← Lib.size_eq]; have := HN.out; omega
    rw [e1, Lib.extract_data, List.drop_zero, List.take_append, e2, List.take_of_length_le (l := rest.data.toList) (by rw [← Lib.size_eq]; omega)]
    simp
  have hL2 : (data.extract n data.size).data.toList = (rest.data.toList ++ data.data.toList).drop 128 := by
    have e2 : 128 - rest.data.toList.length = n := by rw [← Lib.size_eq]; have := HN.out; omega
    rw [Lib.extract_data, List.drop_append, e2, List.drop_of_length_le (l := rest.data.toList) (by rw [← Lib.size_eq]; omega), List.nil_append, List.take_of_length_le (by simp)]
  have hz2 : (data.extract n data.size).size ≤ 1099511627776 := by simp; omega
  have hz1 : (rest ++ data.extract 0 n).size = 128 := by rw [Lib.size_eq, hL1, List.length_take, List.length_append, ← Lib.size_eq, ← Lib.size_eq]; omega
  have cr := HV.out.cellRest
  have fr := HV.out.frozen (pre.length + 8)
  have H1 := Lib.hid hL1; have H2 := Lib.hid hL2; have H3 := Lib.hid hz1; have H4 := Lib.hid hz2
  clear hL1 hL2 hz1 hz2
  go_wp2_with fail
  replace HV := Lib.hid (HV.out.setRest (rest ++ data.extract 0 n))
  generalize rest ++ data.extract 0 n = r1 at *
  generalize data.extract n data.size = d1 at *
  clear cr fr
  generalize World.setCell _ _ _ = W3 at *
  have hdd : decide ((r1.size : Int) < 128) = false := by have := H3.out; simp; omega
  have cr := HV.out.cellRest
  have cp := HV.out.prm.cells.1
  have kr := cell_regrown cr; have kp := cell_regrown cp
  refine wp_region_reads (by kernel_rfl) (by kernel_rfl) ?_
  repeat (first | go_big_quiet_step (fail) | quiet_step (fail))
  refine wpQuiet_nil ?_
  intro W4 hb4
  replace HV := Lib.hid (HV.out.step hb4)
  clear cr cp kr kp hb4
  go_wp2_with fail
  obtain ⟨c0, c1, c2, c3, c4, c5, c6, c7, c8, c9, c10, c11, c12, c13⟩ := HV.out.prm.cells
  have k0 := cell_regrown c0; have k1 := cell_regrown c1; have k2 := cell_regrown c2; have k3 := cell_regrown c3; have k4 := cell_regrown c4
  have k5 := cell_regrown c5; have k6 := cell_regrown c6; have k7 := cell_regrown c7; have k8 := cell_regrown c8; have k9 := cell_regrown c9
  have k10 := cell_regrown c10; have k11 := cell_regrown c11; have k12 := cell_regrown c12; have k13 := cell_regrown c13
  have m0 := cell_regrown (HV.out.cellState 0 (by omega)); have m1 := cell_regrown (HV.out.cellState 1 (by omega)); have m2 := cell_regrown (HV.out.cellState 2 (by omega)); have m3 := cell_regrown (HV.out.cellState 3 (by omega))
  have m4 := cell_regrown (HV.out.cellState 4 (by omega)); have m5 := cell_regrown (HV.out.cellState 5 (by omega)); have m6 := cell_regrown (HV.out.cellState 6 (by omega)); have m7 := cell_regrown (HV.out.cellState 7 (by omega))
  have m8 := cell_regrown HV.out.cellRest
  simp only [W8.at, Nat.add_zero] at m0 m1 m2 m3 m4 m5 m6 m7
  clear c0 c1 c2 c3 c4 c5 c6 c7 c8 c9 c10 c11 c12 c13
  refine wp_region_reads_tail 13 (by kernel_rfl) (by kernel_rfl) ?_
  simp only [List.take_succ_cons, List.take_zero, List.drop_succ_cons, List.drop_zero]
  repeat (first | go_big_quiet_step ((go_at_call 97; exact Calls.regrown_of (compress64_any K st r1 _ (by rw [H3.out]; omega) (by rw [H3.out]; omega) (HV.out.tab.below (below_regrown _ _ _) HV.out.tab.lt)))) | quiet_step ((go_at_call 97; exact Calls.regrown_of (compress64_any K st r1 _ (by rw [H3.out]; omega) (by rw [H3.out]; omega) (HV.out.tab.below (below_regrown _ _ _) HV.out.tab.lt)))))
  refine wpQuiet_nil ?_
  intro W5 hb5
  replace HV := Lib.hid (HV.out.step hb5)
  clear k0 k1 k2 k3 k4 k5 k6 k7 k8 k9 k10 k11 k12 k13 m0 m1 m2 m3 m4 m5 m6 m7 m8 hb5
  generalize hs2 : comp64 (fun t => K t) st r1.data.toList = s2 at *
  have HS2 := Lib.hid hs2
  clear hs2
  have HT8 := Lib.hid (show W5.there b pre.length s2.cells64.size from HV.out.there)
  have HI8 := Lib.hid (show (Tryd.prog.info? 89).map (·.size) = some s2.cells64.size from (zero_of_info info8_64).2)
  have H18 := Lib.hid (show s2.cells64.all (·.oneCell') = true from by simp [Value.oneCell'])
  refine wpList_store_mid rfl 89 _ _ rfl b pre.length s2.cells64 rfl rfl HT8.out HI8.out H18.out ?_
  replace HV := Lib.hid (HV.out.setState s2)
  clear HT8 HI8 H18
  generalize World.setCells _ _ _ _ = W6 at *
  simp only [Act.put]
  have HLL := Lib.hid (full64_long (fun t => K t) st (rest.data.toList ++ data.data.toList) (by rw [List.length_append, ← Lib.size_eq, ← Lib.size_eq]; exact hs))
  clear hdd hmin hnn hnd hsum
  go_wp2_with fail
  go_loopw [2] (fun d wr => ∃ (x : ByteArray) (s' : W8) (r' : ByteArray), d = .string x ∧ x.size ≤ 1099511627776 ∧ Hid (full64 (fun t => K t) st (rest.data.toList ++ data.data.toList) = full64 (fun t => K t) s' x.data.toList) ∧
      Hid (tail128 (rest.data.toList ++ data.data.toList) = tail128 x.data.toList) ∧ WInv64 K b Bp ty pre post w wr s' r' (len + data.size)) (fun d _ => strOf d)
  case atStart => exact ⟨d1, s2, r1, rfl, H4.out, Lib.hid (by rw [HLL.out.1, ← H1.out, HS2.out, ← H2.out]), Lib.hid (by rw [HLL.out.2, ← H2.out]), HV.out⟩
  case round =>
    clear HV
    obtain ⟨x, s', r', rfl, hx, HF, HT, hv⟩ := hrel
    have HV := Lib.hid hv
    clear hv
    have cp := HV.out.prm.cells.1
    by_cases hlt : 128 ≤ x.size
    · have hdd : decide ((128 : Int) ≤ (x.size : Int)) = true := by simp; omega
      go_wp2_with fail
      clear cp
      obtain ⟨c0, c1, c2, c3, c4, c5, c6, c7, c8, c9, c10, c11, c12, c13⟩ := HV.out.prm.cells
      have k0 := cell_regrown c0; have k1 := cell_regrown c1; have k2 := cell_regrown c2; have k3 := cell_regrown c3; have k4 := cell_regrown c4
      have k5 := cell_regrown c5; have k6 := cell_regrown c6; have k7 := cell_regrown c7; have k8 := cell_regrown c8; have k9 := cell_regrown c9
      have k10 := cell_regrown c10; have k11 := cell_regrown c11; have k12 := cell_regrown c12; have k13 := cell_regrown c13
      have m0 := cell_regrown (HV.out.cellState 0 (by omega)); have m1 := cell_regrown (HV.out.cellState 1 (by omega)); have m2 := cell_regrown (HV.out.cellState 2 (by omega)); have m3 := cell_regrown (HV.out.cellState 3 (by omega))
      have m4 := cell_regrown (HV.out.cellState 4 (by omega)); have m5 := cell_regrown (HV.out.cellState 5 (by omega)); have m6 := cell_regrown (HV.out.cellState 6 (by omega)); have m7 := cell_regrown (HV.out.cellState 7 (by omega))
      simp only [W8.at, Nat.add_zero] at m0 m1 m2 m3 m4 m5 m6 m7
      have hxe : (x.extract 0 128).size = 128 := by simp; omega
      have HXE := Lib.hid hxe
      clear hxe c0 c1 c2 c3 c4 c5 c6 c7 c8 c9 c10 c11 c12 c13
      refine wp_region_reads_tail 13 (by kernel_rfl) (by kernel_rfl) ?_
      simp only [List.take_succ_cons, List.take_zero, List.drop_succ_cons, List.drop_zero]
      repeat (first | go_big_quiet_step ((go_at_call 97; exact Calls.regrown_of (compress64_any K s' (x.extract 0 128) _ (by rw [HXE.out]; omega) (by rw [HXE.out]; omega) (HV.out.tab.below (below_regrown _ _ _) HV.out.tab.lt)))) | quiet_step ((go_at_call 97; exact Calls.regrown_of (compress64_any K s' (x.extract 0 128) _ (by rw [HXE.out]; omega) (by rw [HXE.out]; omega) (HV.out.tab.below (below_regrown _ _ _) HV.out.tab.lt)))))
      refine wpQuiet_nil ?_
      intro W2 hb2
      replace HV := Lib.hid (HV.out.step hb2)
      clear k0 k1 k2 k3 k4 k5 k6 k7 k8 k9 k10 k11 k12 k13 m0 m1 m2 m3 m4 m5 m6 m7 hb2
      generalize hs2 : comp64 (fun t => K t) s' (x.extract 0 128).data.toList = s2 at *
      have HS2 := Lib.hid hs2
      clear hs2
      have HT8 := Lib.hid (show W2.there b pre.length s2.cells64.size from HV.out.there)
      have HI8 := Lib.hid (show (Tryd.prog.info? 89).map (·.size) = some s2.cells64.size from (zero_of_info info8_64).2)
      have H18 := Lib.hid (show s2.cells64.all (·.oneCell') = true from by simp [Value.oneCell'])
      refine wpList_store_mid rfl 89 _ _ rfl b pre.length s2.cells64 rfl rfl HT8.out HI8.out H18.out ?_
      replace HV := Lib.hid (HV.out.setState s2)
      clear HT8 HI8 H18
      generalize World.setCells _ _ _ _ = W3 at *
      simp only [Act.put]
      have cp := HV.out.prm.cells.1
      go_wp2_with fail
      go_roundw
      case rel =>
        have hl : 128 ≤ x.data.toList.length := by rw [← Lib.size_eq]; exact hlt
        have hf := full64_long (fun t => K t) s' x.data.toList hl
        refine ⟨x.extract 128 x.size, s2, r', rfl, by simp; omega, Lib.hid ?_, Lib.hid ?_, HV.out⟩
        · rw [HF.out, hf.1, ← HS2.out, Lib.extract_data, Lib.extract_data, List.drop_zero, List.take_of_length_le (l := List.drop 128 x.data.toList) (by simp)]
        · rw [HT.out, hf.2, Lib.extract_data, List.take_of_length_le (l := List.drop 128 x.data.toList) (by simp)]
      case measure => simp [strOf]; omega
    · have hdd : decide ((128 : Int) ≤ (x.size : Int)) = false := by simp; omega
      go_wp2_with (go_at_call 78; refine (clone_any _ _ hx).mono ?_; rintro e W2 ⟨rfl, hb2⟩; replace HV := Lib.hid (HV.out.step hb2); clear hb2; have cr := HV.out.cellRest; have fr := HV.out.frozen (pre.length + 8))
      go_end0
      replace HV := Lib.hid (HV.out.setRest x)
      have hl : x.data.toList.length < 128 := by rw [← Lib.size_eq]; omega
      have hf := full64_short (fun t => K t) s' x.data.toList hl
      refine ⟨rfl, x, ?_, ?_, HV.out.but⟩
      · rw [HT.out, hf.2]
      · rw [HF.out, hf.1]; exact HV.out.run

theorem write64_any (K : Nat → Int) (b : Nat) (ty : TypeId) (pre post : List Value) (st : W8) (rest data : ByteArray) (len : Int) (w : World)
    (hrun : w.heap[b]? = some (.cells (rc64 pre post st rest len) ty)) (hK : TabK w K) (hbk : b ≠ 1)
    (hr : rest.size < 128) (hd : data.size ≤ 1099511627776) (h0 : 0 ≤ len) (h1 : len ≤ 1099511627776) :
    Calls Tryd.prog 95 #[.pointer (some ⟨b, pre.length, none⟩), prm512, .string data] w (WPost64 K b ty pre post st rest data len w) := by
  by_cases hz : rest.size = 0
  · exact write64_none K b ty pre post st rest data len w hrun hK hbk hz hd h0 h1
  · by_cases hs : rest.size + data.size < 128
    · exact write64_short K b ty pre post st rest data len w hrun hK hbk (by omega) hs h0 h1
    · exact write64_long K b ty pre post st rest data len w hrun hK hbk (by omega) hr (by omega) hd h0 h1
end
end Go.Proofs.YtjjgakkijhjaiaaDoor
