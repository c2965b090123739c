/- Texts and bytes: []byte(s) and string(b) where they lie, bytes made, a text's byte and its beginning; bytes and, or, xor. Of no program; A region that draws its order, as XMade; its tail ends in the two components of a call's answer and their assignments, in whatever order. -/
import Derived.Test.YtjemikbnncfonaaBase
import Derived.Laws.BitsAllLaws
namespace Go.Proofs.Ytjemikbnncfonaa
section
open Go.RowKit Go.Sort
set_option maxRecDepth 100000
set_option linter.unusedSimpArgs false
set_option linter.unusedVariables false

/-- []byte(s). -/
theorem conv_bytes (s : ByteArray) (w : World) : ∃ cap, (convert 9 44 (.string s)).run Try.prog w = .ok (.slice (some ⟨w.heap.size, 0, none⟩) s.size cap) (Lib.bytesWorld w 5 s) ∧ OwnS (Lib.bytesWorld w 5 s) w.heap.size w.heap.size cap (Lib.byteCells s.data.toList) ∧ Below w.heap.size w (Lib.bytesWorld w 5 s) := by
  have hl : (Lib.byteCells s.data.toList).length = s.size := by rw [Lib.byteCells_length, ← Lib.size_eq]
  have hge := grownCap_ge w s.size 0 5
  have hsz : (Lib.bytesCells w 5 s).size = grownCap w s.size 0 5 := by
    simp only [Lib.bytesCells, Array.size_append, Array.size_map, Array.size_replicate]
    have : s.data.size = s.size := rfl
    omega
  have hnew := Lib.bytesWorld_at_new w 5 s
  refine ⟨_, Lib.run_convert_string_bytes w 9 44 5 s Try.underlying9 Try.underlying44 Try.underlying5, ⟨Nat.le_refl _, by omega, ?_, ?_⟩, ?_⟩
  · intro j u hj
    have hlt : j < s.size := by rw [← hl]; exact (List.getElem?_eq_some_iff.1 hj).1
    rw [Lib.bytesWorld_cell w 5 s j hlt]
    have hlt' : j < s.data.toList.length := by rw [← Lib.size_eq]; exact hlt
    simp only [Lib.byteCells, List.getElem?_map, List.getElem?_eq_getElem hlt', Option.map_some] at hj
    rw [List.getD_eq_getElem?_getD, List.getElem?_eq_getElem hlt']
    exact hj
  · intro j hj
    constructor
    · rw [cell_of_row _ _ _ _ _ _ hnew]
      have : j < (Lib.bytesCells w 5 s).size := by omega
      simp [this]
    · have : j < (Lib.bytesCells w 5 s).size := by omega
      simp [World.frozen?, hnew]
      omega
  · exact ⟨rfl, rfl, rfl, by rw [Lib.bytesWorld_size]; omega, fun k hk => Lib.bytesWorld_at_old w 5 s k hk⟩
/-- What lies in such bytes stays. -/
theorem OwnS.stays {W W' : World} {base g cap : Nat} {xs : List Value} (h : OwnS W base g cap xs) (hb : Below W.heap.size W W') : OwnS W' base g cap xs := by
  refine ⟨h.base, h.le, fun j u hj => ?_, fun j hj => ?_⟩
  · have := h.cells j u hj
    exact (hb.cell (block_lt_of_cell this)).trans this
  · obtain ⟨u, hu⟩ := Option.isSome_iff_exists.1 (h.room j hj).1
    have hlt := block_lt_of_cell hu
    rw [hb.cell (p := ⟨g, j, none⟩) hlt, hb.frozen (p := ⟨g, j, none⟩) hlt]
    exact h.room j hj
/-- A byte of theirs. -/
theorem own_byte {W : World} {base g cap : Nat} {l : List UInt8} (h : OwnS W base g cap (Lib.byteCells l)) (j : Nat) (hj : j < l.length) : W.cell? ⟨g, j, none⟩ = some (.int .u8 ((l.getD j 0).toNat : Int)) ∧ W.frozen? ⟨g, j, none⟩ = false := by
  have hl : j < (Lib.byteCells l).length := by rw [Lib.byteCells_length]; exact hj
  exact ⟨h.cells j _ (by simp [Lib.byteCells, List.getElem?_eq_getElem hj, List.getD_eq_getElem?_getD]), (h.room j (Nat.lt_of_lt_of_le hl h.le)).2⟩
/-- One written. -/
theorem own_byte_put {W : World} {base g cap : Nat} {l : List UInt8} (h : OwnS W base g cap (Lib.byteCells l)) (j : Nat) (hj : j < l.length) (x : UInt8) : OwnS (W.setCell ⟨g, j, none⟩ (.int .u8 (x.toNat : Int))) base g cap (Lib.byteCells (l.set j x)) := by
  have hl : j < (Lib.byteCells l).length := by rw [Lib.byteCells_length]; exact hj
  have := h.put j hl (.int .u8 (x.toNat : Int))
  rwa [Lib.byteCells, ← List.map_set (f := fun x : UInt8 => Value.int .u8 (x.toNat : Int))] at this
/-- string(b), b's bytes told cell by cell. -/
theorem conv_text (w : World) (g off cap n : Nat) (l : List UInt8) (hl : l.length = n) (h : ∀ j x, l[j]? = some x → w.cell? ⟨g, off + j, none⟩ = some (.int .u8 x.toNat)) :
    (convert 44 9 (.slice (some ⟨g, off, none⟩) n cap)).run Try.prog w = .ok (.string ⟨l.toArray⟩) w := by
  subst hl
  have hld : (loadCells ⟨g, off, none⟩ l.length).run Try.prog w = .ok (bcells l) w := by
    have := run_loadCells_list (P := Try.prog) w ⟨g, off, none⟩ (Lib.byteCells l) (fun j v hv => by
      have hadd : (⟨g, off, none⟩ : Addr).add j = ⟨g, off + j, none⟩ := by unfold Addr.add; split <;> simp_all
      rw [hadd]
      simp only [Lib.byteCells, List.getElem?_map, Option.map_eq_some_iff] at hv
      obtain ⟨x, hx, rfl⟩ := hv
      exact h j x hx)
    rwa [Lib.byteCells_length] at this
  rw [run_convert_bytes_string w 44 9 5 _ _ _ Try.underlying44 Try.underlying5 Try.underlying9,
    run_bytesToString w ⟨g, off, none⟩ l.length cap (l.map fun b => (b.toNat : Int)) (by rw [hld]; simp [bcells, Lib.byteCells]), pushes]
  simp
theorem conv_text_own {w : World} {base g cap n : Nat} {l : List UInt8} (h : OwnS w base g cap (Lib.byteCells l)) (hl : l.length = n) (c : Nat) : (convert 44 9 (.slice (some ⟨g, 0, none⟩) n c)).run Try.prog w = .ok (.string ⟨l.toArray⟩) w :=
  conv_text w g 0 c n l hl fun j x hx => by
    rw [Nat.zero_add]
    exact h.cells j _ (by simp [Lib.byteCells, hx])
/-- So many bytes 0, as a text and as a block of memory. -/
def nilL (n : Nat) : List UInt8 := List.replicate n 0
def nilB (n : Nat) : ByteArray := ⟨(nilL n).toArray⟩
def nilO (n : Nat) : Obj := .cells (bcells (nilL n)) 5
theorem nilL_length (n : Nat) : (nilL n).length = n := List.length_replicate
theorem nilB_size (n : Nat) : (nilB n).size = n := List.length_replicate
theorem make_nil (W : World) (n : Nat) (z : Int) (hz : z = (n : Int)) (hn : n ≤ 1048576) : (Instr.makeSlice 44 (.int .i64 z) (.int .i64 z)).run Try.prog W = .ok (.slice (some ⟨W.heap.size, 0, none⟩) n n) (W.alloc (nilO n)) := by
  subst hz
  obtain ⟨i0, hi, hz0, hz1, hz2⟩ := info_parts info_u8
  have h := run_makeSlice W 44 5 i0 (.int .u8 0) Try.underlying44 hi hz0 .i64 .i64 n n (by omega) (by omega) (by rw [hz1]; omega) (by rw [hz2]; omega) (by omega)
  rw [hz1, made_zero, Int.toNat_natCast, Nat.mul_one] at h
  exact h
theorem text_row (W : World) (g n c : Nat) (l : List UInt8) (hl : l.length = n) (h : W.heap[g]? = some (.cells (bcells l) 5)) : (convert 44 9 (.slice (some ⟨g, 0, none⟩) n c)).run Try.prog W = .ok (.string ⟨l.toArray⟩) W := by
  have hcs := run_string_row W g c l (cells_of_bcells h)
  rw [hl] at hcs
  exact hcs
theorem text_nil (W : World) (g n : Nat) (h : W.heap[g]? = some (nilO n)) : (convert 44 9 (.slice (some ⟨g, 0, none⟩) n n)).run Try.prog W = .ok (.string (nilB n)) W := text_row W g n n _ (nilL_length n) h
/-- Bytes and, or, xor. -/
theorem byte_and (x y : UInt8) : bits .and .u8 (x.toNat : Int) (y.toNat : Int) = ((x &&& y).toNat : Int) := by
  show IntKind.u8.wrap ((BitVec.ofInt 8 (x.toNat : Int) &&& BitVec.ofInt 8 (y.toNat : Int)).toNat : Nat) = _
  have hx : BitVec.ofInt 8 (x.toNat : Int) = x.toBitVec := by apply BitVec.eq_of_toNat_eq; simp
  have hy : BitVec.ofInt 8 (y.toNat : Int) = y.toBitVec := by apply BitVec.eq_of_toNat_eq; simp
  rw [hx, hy]
  have h := (x &&& y).toNat_lt
  have e : (x.toBitVec &&& y.toBitVec).toNat = (x &&& y).toNat := rfl
  rw [e, IntKind.wrap_u8]
  omega
theorem byte_ior (x y : UInt8) : bits .or .u8 (x.toNat : Int) (y.toNat : Int) = ((x ||| y).toNat : Int) := by
  show IntKind.u8.wrap ((BitVec.ofInt 8 (x.toNat : Int) ||| BitVec.ofInt 8 (y.toNat : Int)).toNat : Nat) = _
  have hx : BitVec.ofInt 8 (x.toNat : Int) = x.toBitVec := by apply BitVec.eq_of_toNat_eq; simp
  have hy : BitVec.ofInt 8 (y.toNat : Int) = y.toBitVec := by apply BitVec.eq_of_toNat_eq; simp
  rw [hx, hy]
  have h := (x ||| y).toNat_lt
  have e : (x.toBitVec ||| y.toBitVec).toNat = (x ||| y).toNat := rfl
  rw [e, IntKind.wrap_u8]
  omega
theorem byte_eor (x y : UInt8) : bits .xor .u8 (x.toNat : Int) (y.toNat : Int) = ((x ^^^ y).toNat : Int) := by
  show IntKind.u8.wrap ((BitVec.ofInt 8 (x.toNat : Int) ^^^ BitVec.ofInt 8 (y.toNat : Int)).toNat : Nat) = _
  have hx : BitVec.ofInt 8 (x.toNat : Int) = x.toBitVec := by apply BitVec.eq_of_toNat_eq; simp
  have hy : BitVec.ofInt 8 (y.toNat : Int) = y.toBitVec := by apply BitVec.eq_of_toNat_eq; simp
  rw [hx, hy]
  have h := (x ^^^ y).toNat_lt
  have e : (x.toBitVec ^^^ y.toBitVec).toNat = (x ^^^ y).toNat := rfl
  rw [e, IntKind.wrap_u8]
  omega
/-- A text's byte, and a text and a byte behind it. -/
theorem at_byte (s : ByteArray) (j : Nat) (h : j < s.size) (w : World) : (Instr.index 9 (.string s) (.int .i64 (j : Int))).run Try.prog w = .ok (.int .u8 ((s.data.toList.getD j 0).toNat : Int)) w := by
  rw [run_index_string (P := Try.prog) w 9 s .i64 (j : Int) Try.underlying9]
  simp [h, List.getD_eq_getElem?_getD]
  rfl
end

section
open Go.RowKit Go.Sort
set_option maxRecDepth 100000
set_option linter.unusedSimpArgs false
set_option linter.unusedVariables false

section
variable {P : Program} {ops : Array Oper} {md : Region.Mode}

theorem asks_extract {o : Oper} {t : Operand} {i : Nat} {a : Act} {w : World} (h : o.op = .extract t i) : ¬ o.asks P a w := by
  unfold Oper.asks
  have e : execOp a.eval o = (do let x ← Instr.extract (a.eval t) i; pure (.value x)) := by
    unfold execOp
    rw [h]
  rw [e]
  rintro ⟨h1, _⟩
  have e2 : ((do let x ← Instr.extract (a.eval t) i; pure (Next.value x) : Sem Next).runT P w #[]).2 = #[] := by
    unfold Instr.extract
    split
    · split <;> rfl
    · rfl
  rw [e2] at h1
  simp at h1
theorem exec_extract {o : Oper} {t : Operand} {i : Nat} (ρ : Operand → Value) (h : o.op = .extract t i) : execOp ρ o = (do let x ← Instr.extract (ρ t) i; pure (.value x)) := by
  unfold execOp
  rw [h]
theorem exec_assign {o : Oper} {t : Operand} (ρ : Operand → Value) (h : o.op = .assign t) : execOp ρ o = Sem.pure (.value (ρ t)) := by
  unfold execOp
  rw [h]
  rfl
theorem asks_assign {o : Oper} {t : Operand} {a : Act} {w : World} (h : o.op = .assign t) : ¬ o.asks P a w := by
  unfold Oper.asks
  rw [exec_assign _ h]
  rintro ⟨h1, _⟩
  simp [Sem.runT] at h1
theorem wp_assign {o : Oper} {t : Operand} {a : Act} {w : World} {K : Act → World → Prop} {Q : Exit → Act → World → Prop} (h : o.op = .assign t) : o.wp P a w K Q = K (a.put o.dst (a.eval t)) w := by
  unfold Oper.wp
  rw [exec_assign _ h]
  rfl
theorem wp_extract {o : Oper} {t : Operand} {i : Nat} {a : Act} {w : World} {K : Act → World → Prop} {Q : Exit → Act → World → Prop} (h : o.op = .extract t i) (hw : o.wp P a w K Q) : ∃ vs v, a.eval t = .tuple vs ∧ vs[i]? = some v ∧ K (a.put o.dst v) w := by
  unfold Oper.wp at hw
  rw [exec_extract _ h] at hw
  generalize a.eval t = x at *
  cases x
  case tuple vs =>
    cases hv : vs[i]? with
    | none =>
      have e : (do let y ← Instr.extract (.tuple vs) i; pure (Next.value y) : Sem Next).run P w = .halt (.stuck "Extract: no such component") w := by
        unfold Instr.extract
        dsimp only
        rw [hv]
        rfl
      rw [e] at hw
      exact False.elim hw
    | some v =>
      have e : (do let y ← Instr.extract (.tuple vs) i; pure (Next.value y) : Sem Next).run P w = .ok (.value v) w := by
        unfold Instr.extract
        dsimp only
        rw [hv]
        rfl
      rw [e] at hw
      exact ⟨vs, v, rfl, hv, hw⟩
  all_goals exact False.elim hw
theorem wp_extract_of {o : Oper} {t : Operand} {i : Nat} {a : Act} {w : World} {K : Act → World → Prop} {Q : Exit → Act → World → Prop} {vs : Array Value} {v : Value} (h : o.op = .extract t i) (ht : a.eval t = .tuple vs) (hv : vs[i]? = some v) (hK : K (a.put o.dst v) w) : o.wp P a w K Q := by
  unfold Oper.wp
  rw [exec_extract _ h, ht]
  have e : (do let y ← Instr.extract (.tuple vs) i; pure (Next.value y) : Sem Next).run P w = .ok (.value v) w := by
    unfold Instr.extract
    dsimp only
    rw [hv]
    rfl
  rw [e]
  exact hK
theorem wanted_plain {o : Oper} {y : Nat → Option Bool} (h : o.guard = none) : Region.wanted o y = true := by simp [Region.wanted, h]
theorem put_comm (a : Act) (d e : Tmp) (x y : Value) (h : d ≠ e) : (a.put (some d) x).put (some e) y = (a.put (some e) y).put (some d) x := by
  simp only [Act.put]
  congr 1
  exact Array.setIfInBounds_comm _ _ h
theorem eval_put_other (a : Act) (d t : Tmp) (x : Value) (h : t ≠ d) : (a.put (some d) x).eval (.tmp t) = a.eval (.tmp t) := by
  simp only [Act.put, Act.eval]
  rw [Array.getD_eq_getD_getElem?, Array.getD_eq_getD_getElem?, Array.getElem?_setIfInBounds_ne (Ne.symm h)]
theorem eval_put_same (a : Act) (d : Tmp) (x : Value) (h : d < a.tmps.size) : (a.put (some d) x).eval (.tmp d) = x := by
  simp only [Act.put, Act.eval]
  rw [Array.getD_eq_getD_getElem?, Array.getElem?_setIfInBounds_self_of_lt h]
  rfl
theorem wpOp_extract {Q : Exit → Act → World → Prop} {K : Act → World → Prop} {k i : Nat} {o : Oper} {t : Operand} {a : Act} {w : World} {vs : Array Value} {v : Value} (ho : ops[k]? = some o) (hg : o.guard = none) (h : o.op = .extract t i) (ht : a.eval t = .tuple vs) (hv : vs[i]? = some v) (hK : K (a.put o.dst v) w) : wpOp P ops Q k K a w := by
  unfold wpOp
  simp only [ho]
  rw [if_pos (wanted_plain hg)]
  exact .inl (wp_extract_of h ht hv hK)
theorem wpOp_assign {Q : Exit → Act → World → Prop} {K : Act → World → Prop} {k : Nat} {o : Oper} {t : Operand} {a : Act} {w : World} (ho : ops[k]? = some o) (hg : o.guard = none) (h : o.op = .assign t) (hK : K (a.put o.dst (a.eval t)) w) : wpOp P ops Q k K a w := by
  unfold wpOp
  simp only [ho]
  rw [if_pos (wanted_plain hg)]
  exact .inl (by rw [wp_assign h]; exact hK)
theorem wpAny_none {Q : Exit → Act → World → Prop} {listed : Array Bool} {a : Act} {w : World} (h : Region.ready md ops listed = []) (hQ : Q .normal a w) : wpAny P md ops Q 0 listed a w := ⟨h, hQ⟩
theorem wpAny_one {Q : Exit → Act → World → Prop} {listed : Array Bool} {a : Act} {w : World} {f k : Nat} (h : Region.ready md ops listed = [k]) (hk : wpOp P ops Q k (wpAny P md ops Q f (listed.setIfInBounds k true)) a w) : wpAny P md ops Q (f + 1) listed a w := by
  refine ⟨fun h1 => (by rw [h] at h1; cases h1), fun i hi => ?_⟩
  rw [h] at hi
  obtain rfl : i = k := by simpa using hi
  exact hk
theorem wpAny_pair {Q : Exit → Act → World → Prop} {listed : Array Bool} {a : Act} {w : World} {f k j : Nat} (h : Region.ready md ops listed = [k, j]) (hk : wpOp P ops Q k (wpAny P md ops Q f (listed.setIfInBounds k true)) a w) (hj : wpOp P ops Q j (wpAny P md ops Q f (listed.setIfInBounds j true)) a w) : wpAny P md ops Q (f + 1) listed a w := by
  refine ⟨fun h1 => (by rw [h] at h1; cases h1), fun i hi => ?_⟩
  rw [h] at hi
  rcases (show i = k ∨ i = j by simpa using hi) with rfl | rfl
  · exact hk
  · exact hj
theorem wpList_unasked {Q : Exit → Act → World → Prop} {o : Oper} {l : List Oper} {a : Act} {w : World} (hg : o.guard = none) (hn : ¬ o.asks P a w) (h : wpList P ops Q (o :: l) a w) : o.wp P a w (wpList P ops Q l) Q := by
  unfold wpList at h
  rw [if_pos (wanted_plain hg)] at h
  rcases h with h | h
  · exact h
  · exact absurd h.1 hn
/-- What is ready on each way through the last four. -/
def fourB (md : Region.Mode) (ops : Array Oper) (k : Nat) (L : Array Bool) : Bool :=
  decide (Region.ready md ops L = [k, k + 1]) &&
  decide (Region.ready md ops (L.setIfInBounds k true) = [k + 1, k + 2]) &&
  decide (Region.ready md ops (L.setIfInBounds (k + 1) true) = [k]) &&
  decide (Region.ready md ops ((L.setIfInBounds k true).setIfInBounds (k + 1) true) = [k + 2]) &&
  decide (Region.ready md ops ((L.setIfInBounds (k + 1) true).setIfInBounds k true) = [k + 2]) &&
  decide (Region.ready md ops ((L.setIfInBounds k true).setIfInBounds (k + 2) true) = [k + 1]) &&
  decide (Region.ready md ops (((L.setIfInBounds k true).setIfInBounds (k + 1) true).setIfInBounds (k + 2) true) = [k + 3]) &&
  decide (Region.ready md ops (((L.setIfInBounds (k + 1) true).setIfInBounds k true).setIfInBounds (k + 2) true) = [k + 3]) &&
  decide (Region.ready md ops (((L.setIfInBounds k true).setIfInBounds (k + 2) true).setIfInBounds (k + 1) true) = [k + 3]) &&
  decide (Region.ready md ops ((((L.setIfInBounds k true).setIfInBounds (k + 1) true).setIfInBounds (k + 2) true).setIfInBounds (k + 3) true) = []) &&
  decide (Region.ready md ops ((((L.setIfInBounds (k + 1) true).setIfInBounds k true).setIfInBounds (k + 2) true).setIfInBounds (k + 3) true) = []) &&
  decide (Region.ready md ops ((((L.setIfInBounds k true).setIfInBounds (k + 2) true).setIfInBounds (k + 1) true).setIfInBounds (k + 3) true) = [])
/-- The last four: two components of an answer, and their assignments. -/
def pairB (l : List Oper) : Bool := match l with
  | [o1, o2, o3, o4] => match o1.op, o2.op, o3.op, o4.op, o1.dst, o2.dst, o3.dst, o4.dst with
    | .extract (.tmp t) _, .extract (.tmp t2) _, .assign (.tmp s1), .assign (.tmp s2), some d1, some d2, some x1, some x2 =>
      decide (t = t2) && decide (s1 = d1) && decide (s2 = d2) && o1.guard.isNone && o2.guard.isNone && o3.guard.isNone && o4.guard.isNone &&
      decide (t ≠ d1) && decide (t ≠ d2) && decide (t ≠ x1) && decide (d1 ≠ d2) && decide (d1 ≠ x1) && decide (d2 ≠ x1) && decide (d1 ≠ x2) && decide (d2 ≠ x2) && decide (x1 ≠ x2)
    | _, _, _, _, _, _, _, _ => false
  | _ => false
theorem wpAny_four {Q : Exit → Act → World → Prop} {k t d1 d2 x1 x2 i1 i2 : Nat} {o1 o2 o3 o4 : Oper} {L : Array Bool} {a : Act} {w : World}
    (e1 : ops[k]? = some o1) (e2 : ops[k + 1]? = some o2) (e3 : ops[k + 2]? = some o3) (e4 : ops[k + 3]? = some o4)
    (p1 : o1.op = .extract (.tmp t) i1) (p2 : o2.op = .extract (.tmp t) i2) (p3 : o3.op = .assign (.tmp d1)) (p4 : o4.op = .assign (.tmp d2))
    (q1 : o1.dst = some d1) (q2 : o2.dst = some d2) (q3 : o3.dst = some x1) (q4 : o4.dst = some x2) (g1 : o1.guard = none) (g2 : o2.guard = none) (g3 : o3.guard = none) (g4 : o4.guard = none)
    (n1 : t ≠ d1) (n2 : t ≠ d2) (n3 : t ≠ x1) (n4 : d1 ≠ d2) (n5 : d1 ≠ x1) (n6 : d2 ≠ x1) (hB : fourB md ops k L = true) (h : wpList P ops Q [o1, o2, o3, o4] a w) : wpAny P md ops Q 4 L a w := by
  unfold fourB at hB
  simp only [Bool.and_eq_true, decide_eq_true_eq] at hB
  obtain ⟨⟨⟨⟨⟨⟨⟨⟨⟨⟨⟨r0, r1⟩, r2⟩, r3⟩, r4⟩, r5⟩, r6⟩, r7⟩, r8⟩, r9⟩, r10⟩, r11⟩ := hB
  obtain ⟨vs, v1, ht, hv1, h⟩ := wp_extract p1 (wpList_unasked g1 (asks_extract p1) h)
  rw [q1] at h
  obtain ⟨vs2, v2, ht2, hv2, h⟩ := wp_extract p2 (wpList_unasked g2 (asks_extract p2) h)
  rw [eval_put_other _ _ _ _ n1, ht] at ht2
  cases ht2
  rw [q2] at h
  have h := wpList_unasked g3 (asks_assign p3) h
  rw [wp_assign p3, q3, eval_put_other _ _ _ _ n4] at h
  have h := wpList_unasked g4 (asks_assign p4) h
  rw [wp_assign p4, q4, eval_put_other _ _ _ _ n6, put_comm a d1 d2 v1 v2 n4, eval_put_other _ _ _ _ (Ne.symm n4)] at h
  have h : Q .normal _ w := h
  refine wpAny_pair r0 ?_ ?_
  · refine wpOp_extract e1 g1 p1 ht hv1 ?_
    rw [q1]
    refine wpAny_pair r1 ?_ ?_
    · refine wpOp_extract e2 g2 p2 (by rw [eval_put_other _ _ _ _ n1]; exact ht) hv2 ?_
      rw [q2]
      refine wpAny_one r3 (wpOp_assign e3 g3 p3 ?_)
      rw [q3, eval_put_other _ _ _ _ n4]
      refine wpAny_one r6 (wpOp_assign e4 g4 p4 ?_)
      rw [q4, eval_put_other _ _ _ _ n6, put_comm a d1 d2 v1 v2 n4, eval_put_other _ _ _ _ (Ne.symm n4)]
      exact wpAny_none r9 h
    · refine wpOp_assign e3 g3 p3 ?_
      rw [q3]
      refine wpAny_one r5 (wpOp_extract e2 g2 p2 (by rw [eval_put_other _ _ _ _ n3, eval_put_other _ _ _ _ n1]; exact ht) hv2 ?_)
      rw [q2]
      refine wpAny_one r8 (wpOp_assign e4 g4 p4 ?_)
      rw [q4, put_comm _ x1 d2 _ v2 (Ne.symm n6), eval_put_other _ _ _ _ n6, put_comm a d1 d2 v1 v2 n4, eval_put_other _ _ _ _ (Ne.symm n4)]
      exact wpAny_none r11 h
  · refine wpOp_extract e2 g2 p2 ht hv2 ?_
    rw [q2]
    refine wpAny_one r2 (wpOp_extract e1 g1 p1 (by rw [eval_put_other _ _ _ _ n2]; exact ht) hv1 ?_)
    rw [q1]
    refine wpAny_one r4 (wpOp_assign e3 g3 p3 ?_)
    rw [q3, put_comm a d2 d1 v2 v1 (Ne.symm n4), eval_put_other _ _ _ _ n4]
    refine wpAny_one r7 (wpOp_assign e4 g4 p4 ?_)
    rw [q4, eval_put_other _ _ _ _ n6, put_comm a d1 d2 v1 v2 n4, eval_put_other _ _ _ _ (Ne.symm n4)]
    exact wpAny_none r10 h
/-- Operations in one forced order, then what follows. -/
def forcedB (md : Region.Mode) (ops : Array Oper) (B : Array Bool → Bool) : Nat → Nat → Array Bool → Bool
  | 0, _, listed => B listed
  | g + 1, k, listed => decide (Region.ready md ops listed = [k]) && forcedB md ops B g (k + 1) (listed.setIfInBounds k true)
theorem wpAny_forced {Q : Exit → Act → World → Prop} {B : Array Bool → Bool} {r : List Oper} {f : Nat} (hr : ∀ listed a w, B listed = true → wpList P ops Q r a w → wpAny P md ops Q f listed a w) :
    ∀ (l : List Oper) (k : Nat) (listed : Array Bool) (a : Act) (w : World), (∀ j, j < l.length → l[j]? = ops[k + j]?) →
    forcedB md ops B l.length k listed = true → wpList P ops Q (l ++ r) a w → wpAny P md ops Q (l.length + f) listed a w
  | [], _, listed, a, w, _, hB, h => by rw [List.length_nil, Nat.zero_add]; exact hr listed a w hB h
  | o :: l, k, listed, a, w, hl, hB, h => by
    have h0 : ops[k]? = some o := by simpa using (hl 0 (by simp)).symm
    simp only [List.length_cons, forcedB, Bool.and_eq_true, decide_eq_true_eq] at hB
    rw [List.length_cons, show l.length + 1 + f = (l.length + f) + 1 by omega]
    refine wpAny_one hB.1 ?_
    have hw : wpOp P ops Q k (wpList P ops Q (l ++ r)) a w := by unfold wpOp; simp only [h0]; exact h
    exact wpOp_mono (fun a' w' h' => wpAny_forced hr l (k + 1) _ a' w' (fun j hj => by have := hl (j + 1) (by simpa using hj); simpa [Nat.add_assoc, Nat.add_comm 1 j] using this) hB.2 h') hw
/-- Each operation of the tail but the first waits for one before it in the tail. -/
def hangTailB (md : Region.Mode) (ops : Array Oper) (n : Nat) : Bool :=
  (List.range ops.size).all fun t => decide (t ≤ n) || (List.range t).any fun j => decide (n ≤ j) && Region.waitsFor md ops t j
theorem tail_hangs {n : Nat} {listed : Array Bool} (hs : Region.sinkB md ops n = true) (hc : hangTailB md ops n = true) (hn : n < ops.size) (inv : HeadInv md ops n listed) :
    ∀ (d i : Nat), n - i = d → i < n → listed.getD i true = false → ∀ t, n ≤ t → t ∉ Region.ready md ops listed := by
  intro d
  induction d using Nat.strongRecOn with
  | _ d ih =>
    intro i hd hi hun t ht hr
    obtain ⟨_, ot, hot, hall⟩ := mem_ready.1 hr
    have htlt : t < ops.size := (Array.getElem?_eq_some_iff.1 hot).1
    by_cases htn : t = n
    · subst htn
      have h1 := List.all_eq_true.1 hs i (List.mem_range.2 hi)
      obtain ⟨j, hj, hj2⟩ := List.any_eq_true.1 h1
      simp only [Bool.and_eq_true, decide_eq_true_eq] at hj2
      obtain ⟨oj, hoj, e, he, hb, hon⟩ := Region.waitsFor_spec hj2.2
      have hjle : j ≤ t := by have := List.mem_range.1 hj; omega
      by_cases hjt : j = t
      · subst hjt
        have : oj = ot := Option.some.inj (hoj.symm.trans hot)
        subst this
        have h2 := hall e he hb
        rw [hon, Go.getD_both hun] at h2
        cases h2
      · cases hl : listed.getD j false with
        | true =>
          have h2 := inv.closed j oj hoj hl e he hb
          rw [hon, Go.getD_both hun] at h2
          cases h2
        | false =>
          have hjs : j < listed.size := by rw [inv.size]; omega
          exact ih (t - j) (by omega) j rfl (by omega) (Go.getD_in hjs hl) t (Nat.le_refl _) hr
    · have h1 := List.all_eq_true.1 hc t (List.mem_range.2 htlt)
      simp only [Bool.or_eq_true, decide_eq_true_eq] at h1
      rcases h1 with h1 | h1
      · omega
      · obtain ⟨j, hj, hj2⟩ := List.any_eq_true.1 h1
        simp only [Bool.and_eq_true, decide_eq_true_eq] at hj2
        have hjt := List.mem_range.1 hj
        obtain ⟨o', ho', e, he, hb, hon⟩ := Region.waitsFor_spec hj2.2
        have : o' = ot := Option.some.inj (ho'.symm.trans hot)
        subst this
        have h2 := hall e he hb
        rw [hon, Go.getD_both (inv.tail j hj2.1 (by omega))] at h2
        cases h2
def freshTwoB (ops : Array Oper) (n q m : Nat) (als : List Bool) (rds : List (List Nat)) : Bool :=
  decide (n < ops.size) && Region.sinkB .any ops n && hangTailB .any ops n && (List.range n).all (headOpB ops n m) && (List.range n).all (fun i => headRdB ops n i als (rds.getD i [])) && decide (rds.length = n) &&
  (decide (n + q + 4 = ops.size) && pairB (ops.toList.drop (n + q)) && forcedB .any ops (fourB .any ops (n + q)) q n (Array.replicate n true ++ Array.replicate (ops.size - n) false))

theorem wpAny_two_tail {Q : Exit → Act → World → Prop} {l : List Oper} (n q : Nat) (hsz : n + q + 4 = l.toArray.size) (hp : pairB (l.toArray.toList.drop (n + q)) = true) (listed : Array Bool) (a : Act) (w : World)
    (hB : forcedB .any l.toArray (fourB .any l.toArray (n + q)) q n listed = true) (h : wpList P l.toArray Q (l.drop n) a w) : wpAny P .any l.toArray Q (l.toArray.size - n) listed a w := by
  have hsz' : n + q + 4 = l.length := by simpa using hsz
  have hml : ((l.drop n).take q).length = q := by simp; omega
  have hd : l.drop n = (l.drop n).take q ++ l.drop (n + q) := by rw [← List.drop_drop, List.take_append_drop]
  have hget : ∀ j, (l.drop (n + q))[j]? = l.toArray[n + q + j]? := fun j => by simp [List.getElem?_drop]
  have hfl : (l.drop (n + q)).length = 4 := by simp; omega
  simp only [List.toList_toArray] at hp
  generalize hr : l.drop (n + q) = r at *
  rw [hd] at h
  have hf := wpAny_forced (P := P) (ops := l.toArray) (md := .any) (Q := Q) (B := fourB .any l.toArray (n + q)) (r := r) (f := 4) (fun listed a w hB4 h4 => by
    unfold pairB at hp
    split at hp
    · rename_i o1 o2 o3 o4
      split at hp
      · rename_i t _ t2 _ s1 s2 d1 d2 x1 x2 p1 p2 p3 p4 q1 q2 q3 q4
        simp only [Bool.and_eq_true, decide_eq_true_eq, Option.isNone_iff_eq_none] at hp
        obtain ⟨⟨⟨⟨⟨⟨⟨⟨⟨⟨⟨⟨⟨⟨⟨rfl, rfl⟩, rfl⟩, g1⟩, g2⟩, g3⟩, g4⟩, n1⟩, n2⟩, n3⟩, n4⟩, n5⟩, n6⟩, _⟩, _⟩, _⟩ := hp
        exact wpAny_four (by simpa using (hget 0).symm) (by simpa using (hget 1).symm) (by simpa using (hget 2).symm) (by simpa using (hget 3).symm) p1 p2 p3 p4 q1 q2 q3 q4 g1 g2 g3 g4 n1 n2 n3 n4 n5 n6 hB4 h4
      · cases hp
    · cases hp) ((l.drop n).take q) n listed a w (fun j hj => by
      rw [hml] at hj
      simp [List.getElem?_take, hj, List.getElem?_drop]) (by rw [hml]; exact hB) h
  rw [hml] at hf
  rwa [show l.toArray.size - n = q + 4 by omega]
/-- A region by an invariant of its head. -/
theorem wp_region_inv_two {id : Nat} {Q : Exit → Act → World → Prop} {a : Act} {w : World} {l : List Oper} (n q m : Nat) (als : List Bool) (rds : List (List Nat)) (hm : P.follows .mixedOrders = true) (hB : freshTwoB l.toArray n q m als rds = true)
    (J : Array Bool → Act → World → Prop) (h0 : J (Array.replicate l.toArray.size false) a { w with drawn := w.drawn + 1 })
    (hstep : ∀ i, i < n → ∀ listed a' w', i ∈ Region.ready .any l.toArray listed → HeadInv .any l.toArray n listed → J listed a' w' → wpOp P l.toArray Q i (J (listed.setIfInBounds i true)) a' w')
    (hend : ∀ listed a' w', (∀ i, i < n → listed.getD i false = true) → J listed a' w' → wpList P l.toArray Q (l.drop n) a' w') : (Code.region id l.toArray true).wp P Q a w := by
  unfold freshTwoB at hB
  simp only [Bool.and_eq_true, decide_eq_true_eq] at hB
  obtain ⟨⟨⟨⟨⟨⟨hn, hs⟩, hc⟩, hops⟩, _⟩, _⟩, ⟨hsz, hpair⟩, hseq⟩ := hB
  have hn' : n < l.length := by simpa using hn
  refine wp_region_any hm ?_
  have main : ∀ (f : Nat) (listed : Array Bool) (a' : Act) (w' : World), toCome listed n = f → HeadInv .any l.toArray n listed → J listed a' w' → wpAny P .any l.toArray Q (f + (l.toArray.size - n)) listed a' w' := by
    intro f
    induction f with
    | zero =>
      intro listed a' w' hf inv hJ
      have hall := toCome_zero _ _ hf
      have hl : listed = Array.replicate n true ++ Array.replicate (l.toArray.size - n) false := by
        apply Array.ext
        · simp [inv.size]; omega
        · intro i h1 h2
          by_cases hi : i < n
          · have := hall i hi
            simp [Array.getD_eq_getD_getElem?, h1] at this
            rw [this, Array.getElem_append_left (by simpa using hi)]; simp
          · have := inv.tail i (by omega) (by rw [← inv.size]; exact h1)
            simp [Array.getD_eq_getD_getElem?, h1] at this
            rw [this, Array.getElem_append_right (by simp; omega)]; simp
      rw [Nat.zero_add]
      exact wpAny_two_tail n q hsz hpair listed a' w' (by rw [hl]; exact hseq) (hend listed a' w' hall hJ)
    | succ f ih =>
      intro listed a' w' hf inv hJ
      obtain ⟨i, hi, hun, hall⟩ := toCome_pos _ _ _ hf
      have hil : i < listed.size := by rw [inv.size]; omega
      have hunt : listed.getD i true = false := Go.getD_in hil hun
      have hready : i ∈ Region.ready .any l.toArray listed := by
        rw [mem_ready]
        have hop := List.all_eq_true.1 hops i (List.mem_range.2 hi)
        unfold headOpB at hop
        have hio : l.toArray[i]? = some l.toArray[i] := Array.getElem?_eq_getElem (by simpa using Nat.lt_trans hi hn')
        rw [hio] at hop
        simp only [Bool.and_eq_true] at hop
        refine ⟨hunt, _, hio, fun e he hb => ?_⟩
        have := Array.all_eq_true'.1 hop.1.2 e he
        simp only [hb, Bool.not_true, Bool.false_or, decide_eq_true_eq] at this
        exact hall _ this
      rw [show f + 1 + (l.toArray.size - n) = (f + (l.toArray.size - n)) + 1 by omega]
      refine ⟨fun h => (by rw [h] at hready; cases hready), fun j hj => ?_⟩
      have hjn : j < n := Nat.lt_of_not_le fun h => absurd hj (tail_hangs hs hc hn inv _ i rfl hi hunt j h)
      have hjl : j < listed.size := by rw [inv.size]; omega
      have hju : listed.getD j false = false := Go.getD_both (mem_ready.1 hj).1
      refine wpOp_mono (fun a'' w'' h => ih _ a'' w'' ?_ (inv.set hj hjn) h) (hstep j hjn listed a' w' hj inv hJ)
      have := toCome_set listed n j hjn hjl hju
      omega
  have hf0 : toCome (Array.replicate l.toArray.size false) n = n := by
    unfold toCome
    have : (List.range n).filter (fun i => !(Array.replicate l.toArray.size false).getD i false) = List.range n := by
      rw [List.filter_eq_self]; intro i _; rw [Go.getD_replicate_false]; rfl
    rw [this, List.length_range]
  have inv0 : HeadInv .any l.toArray n (Array.replicate l.toArray.size false) :=
    ⟨by simp, fun j oj _ hl => (by rw [Go.getD_replicate_false] at hl; cases hl), fun t _ ht => Go.getD_in (by simpa using ht) (Go.getD_replicate_false _ _)⟩
  have := main n _ a _ hf0 inv0 h0
  rwa [show n + (l.toArray.size - n) = l.toArray.size by omega] at this

/-- The region: the tail is q operations in one forced order and the four. -/
theorem wp_region_made_two {id : Nat} {Q : Exit → Act → World → Prop} {a : Act} {w : World} {l : List Oper} (n q m : Nat) (S : List MadeSpec) (hm : P.follows .mixedOrders = true)
    (hB : freshTwoB l.toArray n q m (S.map fun s => s.al.isSome) (S.map fun s => s.rd.map (·.1)) = true) (hM : madeB l.toArray n (S.map fun s => s.rm.map fun p => (p.1, p.2.1)) = true) (hsz : a.tmps.size = m)
    (hmk : madeMk S S) (hob : madeObl P w (l.take n) S) (hrd : madeReads (headPut a (l.take n) (madeV S) 0) S)
    (hend : madeEnd P l.toArray Q (l.drop n) w (l.take n) S a []) : (Code.region id l.toArray true).wp P Q a w := by
  have hB0 := hB
  unfold freshTwoB at hB0
  simp only [Bool.and_eq_true, decide_eq_true_eq] at hB0
  obtain ⟨⟨⟨⟨⟨⟨hn, _⟩, _⟩, hops⟩, hrds⟩, hlen⟩, _⟩ := hB0
  have hn' : n < l.length := by simpa using hn
  have htl : (l.take n).length = n := by simp; omega
  obtain ⟨hSl, hget⟩ := madeObl_get hob
  rw [htl] at hSl
  have hopi : ∀ i, i < n → ∃ o d, l.toArray[i]? = some o ∧ o.guard = none ∧ o.dst = some d ∧ dstOf l.toArray i = some d ∧ d < a.tmps.size ∧ ∀ j, j < n → j ≠ i → dstOf l.toArray j ≠ some d := fun i hi => by
    have hop := List.all_eq_true.1 hops i (List.mem_range.2 hi)
    unfold headOpB at hop
    have hio : l.toArray[i]? = some l.toArray[i] := Array.getElem?_eq_getElem (by simpa using Nat.lt_trans hi hn')
    rw [hio] at hop
    simp only [Bool.and_eq_true] at hop
    obtain ⟨⟨hg, _⟩, hd⟩ := hop
    cases hdd : l.toArray[i].dst with
    | none => rw [hdd] at hd; cases hd
    | some d =>
      rw [hdd] at hd
      simp only [Bool.and_eq_true, decide_eq_true_eq] at hd
      refine ⟨_, d, hio, by simpa using hg, hdd, by rw [dstOf, hio]; exact hdd, by rw [hsz]; exact hd.1, fun j hj hji e => ?_⟩
      have := List.all_eq_true.1 hd.2 j (List.mem_range.2 hj)
      simp only [Bool.or_eq_true, beq_iff_eq, bne_iff_ne] at this
      rcases this with h | h
      · exact hji h
      · exact h e
  have hfr0 : FrameIs l.toArray n a (madeV S) (Array.replicate l.toArray.size false) a := ⟨rfl, rfl, fun j d _ h _ => (by rw [Go.getD_replicate_false] at h; cases h), fun _ _ => rfl⟩
  obtain ⟨lF, hlF, hF⟩ := headPut_is (ops := l.toArray) (n := n) (a0 := a) (vs := madeV S) (fun i hi => by obtain ⟨o, d, _, _, _, h1, h2, h3⟩ := hopi i hi; exact ⟨d, h1, h2, h3⟩)
    (l.take n) 0 (Array.replicate l.toArray.size false) a (by omega) (fun j hj => by rw [htl] at hj; simp [List.getElem?_take, hj]) (by simp; omega) (fun i hi => by rw [Go.getD_replicate_false]; simp) hfr0
  refine wp_region_inv_two n q m _ _ hm hB (fun listed a' w' => listed.size = l.toArray.size ∧ ∃ vs : Nat → Value, FrameIs l.toArray n a vs listed a' ∧ Below w.heap.size w w' ∧
      (∀ (i : Nat) (s : MadeSpec), i < n → listed.getD i false = true → S[i]? = some s → madeAt w w' s (vs i)) ∧
      (∀ (i j : Nat) (s t : MadeSpec), i < n → j < n → listed.getD i false = true → listed.getD j false = true → S[i]? = some s → S[j]? = some t → i ≠ j → s.al.isSome = true → t.al.isSome = true → blkOf (vs i) ≠ blkOf (vs j))) ?_ ?_ ?_
  · refine ⟨by simp, madeV S, hfr0, ⟨rfl, rfl, rfl, Nat.le_refl _, fun _ _ => rfl⟩, fun i s _ h => (by rw [Go.getD_replicate_false] at h; cases h), fun i j s t _ _ h => (by rw [Go.getD_replicate_false] at h; cases h)⟩
  · intro i hi listed a' w' hr inv hJ
    obtain ⟨hls, vs, hf, hb, hsp, hdi⟩ := hJ
    obtain ⟨o, d, ho, hg, hod, hd, hdm, hne⟩ := hopi i hi
    have hu : listed.getD i false = false := Go.getD_both (mem_ready.1 hr).1
    have hil : i < listed.size := by rw [hls]; omega
    obtain ⟨s, hs⟩ : ∃ s, S[i]? = some s := ⟨S[i]'(by omega), List.getElem?_eq_getElem (by omega)⟩
    have hobl := hget i o s (by simpa [List.getElem?_take, hi] using ho) hs
    have hwaits : ∀ j, j < n → Region.waitsFor .any l.toArray i j = true → listed.getD j false = true := fun j hj hw1 => by
      obtain ⟨oj, hoj, e, he, hbi, heq⟩ := Region.waitsFor_spec hw1
      rw [ho] at hoj; cases hoj
      obtain ⟨_, o2, ho2, hall⟩ := mem_ready.1 hr
      rw [ho] at ho2; cases ho2
      rw [← heq]; exact hall e he hbi
    have hreads : ∀ p ∈ s.rd, a'.tmps.getD p.1 undef = p.2 := fun p hp => by
      have hR := List.all_eq_true.1 hrds i (List.mem_range.2 hi)
      unfold headRdB at hR
      have hpi : p.1 ∈ (S.map fun s => s.rd.map (·.1)).getD i [] := by
        simp only [List.getD_eq_getElem?_getD, List.getElem?_map, hs, Option.map_some, Option.getD_some]
        exact List.mem_map.2 ⟨p, hp, rfl⟩
      have hR2 := List.all_eq_true.1 hR p.1 hpi
      rw [← madeReads_get hrd i s hs p hp]
      by_cases hx : ∃ j, j < n ∧ dstOf l.toArray j = some p.1
      · obtain ⟨j, hj, hdj⟩ := hx
        have hR3 := List.all_eq_true.1 hR2 j (List.mem_range.2 hj)
        simp only [hdj, bne_self_eq_false, Bool.false_or, Bool.and_eq_true] at hR3
        obtain ⟨hw1, hw2⟩ := hR3
        have hlj := hwaits j hj hw1
        obtain ⟨t, ht⟩ : ∃ t, S[j]? = some t := ⟨S[j]'(by omega), List.getElem?_eq_getElem (by omega)⟩
        have hta : t.al = none := by
          simp only [List.getD_eq_getElem?_getD, List.getElem?_map, ht, Option.map_some, Option.getD_some, Bool.not_eq_true'] at hw2
          simpa using hw2
        rw [hf.put j p.1 hj hlj hdj, hF.put j p.1 hj (hlF j hj) hdj]
        have := hsp j t hj hlj ht
        unfold madeAt at this
        simp only [hta] at this
        rw [this, madeV, ht]; rfl
      · rw [hf.old p.1 fun j hj _ e => hx ⟨j, hj, e⟩, hF.old p.1 fun j hj _ e => hx ⟨j, hj, e⟩]
    have hmades : ∀ p ∈ s.rm, ∃ g : Nat, a'.tmps.getD p.2.1 undef = p.2.2.2 g ∧ w'.heap[g]? = some p.2.2.1 := fun p hp => by
      have hR := List.all_eq_true.1 hM i (List.mem_range.2 hi)
      have hpi : (p.1, p.2.1) ∈ (S.map fun s => s.rm.map fun p => (p.1, p.2.1)).getD i [] := by
        simp only [List.getD_eq_getElem?_getD, List.getElem?_map, hs, Option.map_some, Option.getD_some]
        exact List.mem_map.2 ⟨p, hp, rfl⟩
      have hR2 := List.all_eq_true.1 hR (p.1, p.2.1) hpi
      simp only [Bool.and_eq_true, decide_eq_true_eq, beq_iff_eq] at hR2
      obtain ⟨⟨hj, hdj⟩, hw1⟩ := hR2
      have hlj := hwaits p.1 hj hw1
      obtain ⟨t, ht⟩ : ∃ t, S[p.1]? = some t := ⟨S[p.1]'(by omega), List.getElem?_eq_getElem (by omega)⟩
      have hta := madeMk_get hmk i s hs p hp
      rw [ht] at hta
      simp only [Option.bind_some] at hta
      have := hsp p.1 t hj hlj ht
      unfold madeAt at this
      simp only [hta] at this
      obtain ⟨g, h1, _, _, h4⟩ := this
      exact ⟨g, by rw [hf.put p.1 p.2.1 hj hlj hdj, h1], h4⟩
    unfold wpOp
    simp only [ho]
    have hw : Region.wanted o (yielded l.toArray a'.tmps) = true := by simp [Region.wanted, hg]
    rw [if_pos hw]
    refine .inl ?_
    unfold madeSpecObl at hobl
    cases hal : s.al with
    | none =>
      simp only [hal] at hobl
      refine wp_of_sQuiet (hobl a' w' hb hreads hmades) fun w'' hb2 => ?_
      rw [hod]
      refine ⟨by simpa using hls, _, hf.step hi hil hu hd hdm hne s.v, hb.trans (hb2.mono hb.size), fun j t hj hlj ht => ?_, fun j k t u hj hk hlj hlk ht hu' hjk hta hua => ?_⟩
      · by_cases hji : j = i
        · subst hji; rw [hs] at ht; cases ht; unfold madeAt; simp [hal]
        · simp only [if_neg hji]
          rw [getD_set_not _ _ _ (Ne.symm hji)] at hlj
          exact (hsp j t hj hlj ht).keep hb2
      · have hji : j ≠ i := fun e => by subst e; rw [hs] at ht; cases ht; simp [hal] at hta
        have hki : k ≠ i := fun e => by subst e; rw [hs] at hu'; cases hu'; simp [hal] at hua
        simp only [if_neg hji, if_neg hki]
        rw [getD_set_not _ _ _ (Ne.symm hji)] at hlj
        rw [getD_set_not _ _ _ (Ne.symm hki)] at hlk
        exact hdi j k t u hj hk hlj hlk ht hu' hjk hta hua
    | some om =>
      obtain ⟨ob, mk⟩ := om
      simp only [hal] at hobl
      obtain ⟨hbk, hrun⟩ := hobl
      unfold Oper.wp
      rw [hrun a' w' hb hreads]
      simp only [Oper.upon]
      rw [hod]
      have hb2 := below_new w' ob
      have hkey : ∀ j t, j < n → listed.getD j false = true → S[j]? = some t → t.al.isSome = true → blkOf (vs j) ≠ some w'.heap.size := fun j t hj hlj ht hta e => by
        have := hsp j t hj hlj ht
        unfold madeAt at this
        cases hta' : t.al with
        | none => simp [hta'] at hta
        | some om' =>
          obtain ⟨ob', mk'⟩ := om'
          simp only [hta'] at this
          obtain ⟨g, h1, h2, _, h3⟩ := this
          rw [e] at h2
          have : w'.heap.size = g := by simpa using h2
          have := blk_lt h3
          omega
      refine ⟨by simpa using hls, _, hf.step hi hil hu hd hdm hne (mk w'.heap.size), hb.trans (hb2.mono hb.size), fun j t hj hlj ht => ?_, fun j k t u hj hk hlj hlk ht hu' hjk hta hua => ?_⟩
      · by_cases hji : j = i
        · subst hji; rw [hs] at ht; cases ht; unfold madeAt; simp only [hal]; exact ⟨w'.heap.size, by simp, by simp [hbk], hb.size, blk_new w' ob⟩
        · simp only [if_neg hji]
          rw [getD_set_not _ _ _ (Ne.symm hji)] at hlj
          exact (hsp j t hj hlj ht).keep hb2
      · by_cases hji : j = i
        · subst hji
          have hkj : k ≠ j := Ne.symm hjk
          simp only [if_pos, if_neg hkj, hbk]
          rw [getD_set_not _ _ _ (Ne.symm hkj)] at hlk
          exact fun e => hkey k u hk hlk hu' hua e.symm
        · rw [getD_set_not _ _ _ (Ne.symm hji)] at hlj
          by_cases hki : k = i
          · subst hki
            simp only [if_pos, if_neg hji, hbk]
            exact hkey j t hj hlj ht hta
          · simp only [if_neg hji, if_neg hki]
            rw [getD_set_not _ _ _ (Ne.symm hki)] at hlk
            exact hdi j k t u hj hk hlj hlk ht hu' hjk hta hua
  · intro listed a' w' hall hJ
    obtain ⟨hls, vs, hf, hb, hsp, hdi⟩ := hJ
    have hfr1 : FrameIs l.toArray n a vs (Array.replicate l.toArray.size false) a := ⟨rfl, rfl, fun j d _ h _ => (by rw [Go.getD_replicate_false] at h; cases h), fun _ _ => rfl⟩
    obtain ⟨lV, hlV, hV⟩ := headPut_is (ops := l.toArray) (n := n) (a0 := a) (vs := vs) (fun i hi => by obtain ⟨o, d, _, _, _, h1, h2, h3⟩ := hopi i hi; exact ⟨d, h1, h2, h3⟩)
      (l.take n) 0 (Array.replicate l.toArray.size false) a (by omega) (fun j hj => by rw [htl] at hj; simp [List.getElem?_take, hj]) (by simp; omega) (fun i hi => by rw [Go.getD_replicate_false]; simp) hfr1
    rw [hf.eq hV hall hlV]
    have hin : ∀ (i : Nat) (s : MadeSpec), S[i]? = some s → i < n := fun i s h => by have := (List.getElem?_eq_some_iff.1 h).1; omega
    refine madeEnd_use hb (l.take n) S a [] 0 (by omega) (fun i s hs => ?_) (fun _ _ _ _ p hp => by simp at hp) (fun i j s t hs ht hij hsa hta => ?_) (fun p hp => by simp at hp) hend
    · rw [Nat.zero_add]; exact hsp i s (hin i s hs) (hall i (hin i s hs)) hs
    · rw [Nat.zero_add, Nat.zero_add]; exact hdi i j s t (hin i s hs) (hin j t ht) (hall i (hin i s hs)) (hall j (hin j t ht)) hs ht hij hsa hta
end
end
end Go.Proofs.Ytjemikbnncfonaa
