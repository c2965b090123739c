/- One reader, and records one behind the other. -/
import Derived.Test.YtffnafikegakcaaRcLists
namespace Go.Proofs.Ytffnafikegakcaa
open Go.RowKit Go.Sort
set_option maxRecDepth 100000
set_option linter.unusedSimpArgs false
set_option linter.unusedVariables false

/-- The program's reader, that stands so. -/
structure CInv (w W : World) (b base : Nat) (st : RSt) : Prop where
  rd : RdAt W b base st
  l1 : st.buf.length ≤ 1048576
  bel : Below w.heap.size w W
  hb : b < base
  lo : w.heap.size ≤ b
  ba : base ≤ W.heap.size
section
variable {w W : World} {b base : Nat} {st : RSt}
theorem CInv.step (h : CInv w W b base st) {W' : World} (hb : Below W.heap.size W W') : CInv w W' b base st :=
  ⟨h.rd.below hb, h.l1, h.bel.trans (hb.mono h.bel.size), h.hb, h.lo, Nat.le_trans h.ba hb.size⟩
theorem CInv.feed (h : CInv w W b base st) (d : ByteArray) :
    Calls Try.prog 10 #[.pointer (some ⟨b, 0, none⟩), .string d] W fun e W' => e = .returned (.int .i64 (feedE st d)) ∧ CInv w W' b base (feedS st d) :=
  (feed_any b base st d W h.rd h.hb h.ba h.l1).mono fun e W' ⟨he, hr, hx⟩ => ⟨he, hr, feedS_len _ _ h.l1, h.bel.trans (hx.below h.lo (by have := h.hb; have := h.lo; omega)), h.hb, h.lo, Nat.le_trans h.ba hx.size⟩
theorem CInv.next (h : CInv w W b base st) :
    Calls Try.prog 12 #[.pointer (some ⟨b, 0, none⟩)] W fun e W' => e = .returned (.tuple #[.int .i64 (nextK st), .string (nextB st), .int .i64 (nextE st)]) ∧ CInv w W' b base (nextS st) :=
  (next_any b base st W h.rd h.hb h.ba h.l1).mono fun e W' ⟨he, hr, hx⟩ => ⟨he, hr, nextS_len _ h.l1, h.bel.trans (hx.below h.lo (by have := h.hb; have := h.lo; omega)), h.hb, h.lo, Nat.le_trans h.ba hx.size⟩
end

/-- The size of a value that is a string. -/
def strN : Value → Nat
  | .string x => x.size
  | _ => 0
/-- The lists of bytes of some texts. -/
def txL (ss : List ByteArray) : List (List UInt8) := ss.map (·.data.toList)
/-- The records of the first k. -/
def allR (ss : List ByteArray) (k : Nat) : ByteArray := ⟨(catR 0 (txL (ss.take k))).toArray⟩
theorem allR_zero (ss : List ByteArray) : allR ss 0 = emB := rfl
theorem frO_ok (k : Nat) (s : ByteArray) (h : s.size ≤ 16640) : frO (20 + ((k % 4 : Nat) : Int)) s = (⟨(frL (20 + ((k % 4 : Nat) : Int)) s.data.toList).toArray⟩, 0) := by
  have hk4 : k % 4 < 4 := Nat.mod_lt _ (by decide)
  have hi : isK (20 + ((k % 4 : Nat) : Int)) = true := by simp [isK]; omega
  have e : headB (20 + ((k % 4 : Nat) : Int)) s.size ++ s = ⟨(headL (20 + ((k % 4 : Nat) : Int)) s.size ++ s.data.toList).toArray⟩ := by
    apply ByteArray.ext
    rw [ByteArray.data_append, headB]
    simp
  rw [frO, hi, if_neg (by decide), if_neg (by omega), frL, ← Lib.size_eq, e]
theorem allR_succ (ss : List ByteArray) (k : Nat) (h : k < ss.length) : allR ss k ++ ⟨(frL (20 + ((k % 4 : Nat) : Int)) (ss.getD k emB).data.toList).toArray⟩ = allR ss (k + 1) := by
  have ht : ss.take (k + 1) = ss.take k ++ [ss.getD k emB] := by
    rw [List.take_succ_eq_append_getElem h]
    simp [List.getD_eq_getElem?_getD, h]
  apply ByteArray.ext
  rw [ByteArray.data_append]
  show (catR 0 (txL (ss.take k))).toArray ++ _ = (catR 0 (txL (ss.take (k + 1)))).toArray
  have hlk : (txL (ss.take k)).length = k := by simp [txL]; omega
  rw [ht, show txL (ss.take k ++ [ss.getD k emB]) = txL (ss.take k) ++ [(ss.getD k emB).data.toList] by simp [txL], catR_append, hlk, Nat.zero_add]
  simp [catR]
theorem catR_length (bs : List (List UInt8)) (m : Nat) (h : ∀ b, b ∈ bs → b.length ≤ m) : ∀ n, (catR n bs).length ≤ bs.length * (5 + m) := by
  induction bs with
  | nil => intro n; simp [catR]
  | cons b r ih =>
    intro n
    rw [catR, List.length_append, frL_length, List.length_cons, Nat.succ_mul]
    have := ih (fun x hx => h x (by simp [hx])) (n + 1)
    have := h b (by simp)
    omega
theorem txL_le (ss : List ByteArray) (m : Nat) (h : ∀ j, j < ss.length → (ss.getD j emB).size ≤ m) : ∀ b, b ∈ txL ss → b.length ≤ m := by
  intro b hb
  obtain ⟨s, hs, rfl⟩ := List.mem_map.1 hb
  obtain ⟨j, hj, rfl⟩ := List.getElem_of_mem hs
  have := h j hj
  rw [List.getD_eq_getElem?_getD, List.getElem?_eq_getElem hj, Option.getD_some] at this
  rw [← Lib.size_eq]; exact this
theorem txL_drop (ss : List ByteArray) (n : Nat) (h : n < ss.length) : (txL ss).drop n = (ss.getD n emB).data.toList :: (txL ss).drop (n + 1) := by
  have hl : n < (txL ss).length := by simpa [txL] using h
  rw [List.drop_eq_getElem_cons hl]
  simp [txL, List.getD_eq_getElem?_getD, h]

/-- So much is read: n records are behind, the rest is in the buffer and in what is still to come. -/
structure CutQ (ss : List ByteArray) (n : Nat) (st : RSt) (rest : ByteArray) : Prop where
  le : n ≤ ss.length
  err : st.err = 0
  eq : st.buf ++ rest.data.toList = catR n ((txL ss).drop n)
  len : st.buf.length + rest.size ≤ 20000
theorem cut_start (ss : List ByteArray) (hn : ss.length ≤ 10) (hs : ∀ j, j < ss.length → (ss.getD j emB).size ≤ 1000) : CutQ ss 0 ⟨[], 0⟩ (allR ss ss.length) := by
  refine ⟨Nat.zero_le _, rfl, ?_, ?_⟩
  · rw [allR, List.take_length]; rfl
  · have h := catR_length (txL ss) 1000 (txL_le ss 1000 hs) 0
    have hl : (txL ss).length = ss.length := by simp [txL]
    rw [hl] at h
    have e : (allR ss ss.length).size = (catR 0 (txL ss)).length := by rw [allR, List.take_length]; simp [ByteArray.size]
    rw [e]
    show 0 + _ ≤ _
    have := Nat.mul_le_mul_right (5 + 1000) hn
    omega
theorem cut_feed {ss : List ByteArray} {n : Nat} {st : RSt} {rest : ByteArray} (h : CutQ ss n st rest) (k : Nat) (hk : k ≤ rest.size) :
    feedE st (rest.extract 0 k) = 0 ∧ CutQ ss n (feedS st (rest.extract 0 k)) (rest.extract k rest.size) := by
  have e1 : (rest.extract 0 k).data.toList = rest.data.toList.take k := by rw [Lib.extract_eq]; simp
  have e2 : (rest.extract k rest.size).data.toList = rest.data.toList.drop k := by rw [ext_from]
  have s1 : (rest.extract 0 k).size = k := by rw [Lib.size_eq, e1, List.length_take, ← Lib.size_eq]; omega
  have s2 : (rest.extract k rest.size).size = rest.size - k := by rw [Lib.size_eq, e2, List.length_drop, ← Lib.size_eq]
  have hl := h.len
  have hE : feedE st (rest.extract 0 k) = 0 := by rw [feedE, if_neg (by rw [h.err]; decide), if_neg (by rw [s1]; omega)]
  refine ⟨hE, ?_⟩
  rw [feedS, if_pos hE]
  refine ⟨h.le, rfl, ?_, ?_⟩
  · show (st.buf ++ _) ++ _ = _
    rw [e1, e2, List.append_assoc, List.take_append_drop, h.eq]
  · show (st.buf ++ _).length + _ ≤ _
    rw [List.length_append, e1, s2, List.length_take, ← Lib.size_eq]; omega
theorem cut_next {ss : List ByteArray} {n : Nat} {st : RSt} {rest : ByteArray} (hs : ∀ j, j < ss.length → (ss.getD j emB).size ≤ 1000) (h : CutQ ss n st rest) :
    (nextE st = 33 ∧ nextS st = st ∧ nxE st.buf = 33) ∨ (n < ss.length ∧ nextE st = 0 ∧ nextK st = 20 + ((n % 4 : Nat) : Int) ∧ nextB st = ss.getD n emB ∧ CutQ ss (n + 1) (nextS st) rest) := by
  have hE : nextE st = nxE st.buf := by rw [nextE, if_neg (by rw [h.err]; decide)]
  rcases nx_cat n ((txL ss).drop n) (fun b hb => by have := txL_le ss 1000 hs b (List.mem_of_mem_drop hb); omega) st.buf rest.data.toList h.eq with ⟨h1, h2⟩ | ⟨b, r, hbr, h1, h2, h3, h4⟩
  · exact .inl ⟨hE.trans h1, by rw [nextS, if_neg (by rw [h.err]; decide), h1, if_neg (by decide), if_pos rfl], h1⟩
  · have hn : n < ss.length := by
      have := congrArg List.length hbr
      rw [List.length_drop] at this
      simp [txL] at this; omega
    rw [txL_drop ss n hn] at hbr
    injection hbr with hb1 hr1
    refine .inr ⟨hn, hE.trans h1, ?_, ?_, ?_⟩
    · rw [nextK, if_pos (hE.trans h1)]; exact h2
    · rw [nextB, if_pos (hE.trans h1), bodyB, h3, ← hb1]
    · rw [nextS, if_neg (by rw [h.err]; decide), if_pos h1]
      refine ⟨hn, rfl, by show st.buf.drop _ ++ _ = _; rw [h4, hr1], ?_⟩
      show (st.buf.drop _).length + _ ≤ _
      rw [List.length_drop]; have := h.len; omega
theorem cut_end {ss : List ByteArray} {n : Nat} {st : RSt} {rest : ByteArray} (hs : ∀ j, j < ss.length → (ss.getD j emB).size ≤ 1000) (h : CutQ ss n st rest) (h33 : nxE st.buf = 33) (hr : rest.size = 0) : n = ss.length := by
  have hr2 : rest.data.toList = [] := List.eq_nil_of_length_eq_zero (by rw [← Lib.size_eq]; exact hr)
  rcases nx_cat n ((txL ss).drop n) (fun b hb => by have := txL_le ss 1000 hs b (List.mem_of_mem_drop hb); omega) st.buf rest.data.toList h.eq with ⟨_, h2⟩ | ⟨b, r, hbr, h1, _⟩
  · have h3 := congrArg List.length (h2 hr2)
    rw [List.length_drop] at h3
    simp [txL] at h3
    have := h.le; omega
  · rw [h33] at h1; cases h1
end Go.Proofs.Ytffnafikegakcaa
