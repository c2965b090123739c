/- What the laws of points ask of the program's calls, whatever its points are. -/
import Derived.Test.YtcpdehfmlmmgiaaDoorPtText
import Derived.Test.YtcpdehfmlmmgiaaDoorPrBas
import Derived.Test.YtcpdehfmlmmgiaaDoorFldL
namespace Go.Proofs.YtcpdehfmlmmgiaaDoor
open Go.RowKit Go.Sort
set_option maxRecDepth 100000
set_option linter.unusedSimpArgs false
set_option linter.unusedVariables false

/-- The program's points (the values .agg cs with IsPt cs p) and what its calls answer. -/
structure PtCalls (IsPt : Array Value → PtN → Prop) (zv : Array Value) (N : Nat) : Prop where
  info : (Tryd.prog.info? 28).map (fun i => (i.zero, i.size)) = some (some (.agg zv), N)
  zsize : zv.size = N
  size : ∀ cs p, IsPt cs p → cs.size = N
  one : ∀ cs p, IsPt cs p → cs.all (·.oneCell') = true
  first : ∀ cs p, IsPt cs p → ∃ v, cs[0]? = some v ∧ ∀ n, v ≠ .int .i64 n
  of : ∀ (s : ByteArray) (w : World), PrmQ w → Calls Tryd.prog 9 #[.string s] w fun e w' => (∃ cs, e = .returned (.tuple #[.agg cs, .int .i64 (ofET s)]) ∧ IsPt cs (ofPT s)) ∧ Below w.heap.size w w'
  bytes : ∀ cs p (w : World), IsPt cs p → PrmQ w → Calls Tryd.prog 11 #[.agg cs] w fun e w' => e = .returned (.string (txtP p)) ∧ Below w.heap.size w w'
  add : ∀ cs ds p q (w : World), IsPt cs p → IsPt ds q → PrmQ w → Calls Tryd.prog 16 #[.agg cs, .agg ds] w fun e w' => (∃ es, e = .returned (.agg es) ∧ IsPt es (sumP p q)) ∧ Below w.heap.size w w'
  neg : ∀ cs p (w : World), IsPt cs p → PrmQ w → Calls Tryd.prog 13 #[.agg cs] w fun e w' => (∃ es, e = .returned (.agg es) ∧ IsPt es (negP p)) ∧ Below w.heap.size w w'
  mul : ∀ cs p (s : ByteArray) (w : World), IsPt cs p → PrmQ w → Calls Tryd.prog 20 #[.agg cs, .string s] w fun e w' => (∃ es, e = .returned (.tuple #[.agg es, .int .i64 (mulET s)]) ∧ IsPt es (mulPT p s)) ∧ Below w.heap.size w w'
  base : ∀ (w : World), PrmQ w → Calls Tryd.prog 18 #[] w fun e w' => (∃ es, e = .returned (.agg es) ∧ IsPt es baseP) ∧ Below w.heap.size w w'
  zero : ∀ (w : World), PrmQ w → Calls Tryd.prog 22 #[] w fun e w' => (∃ es, e = .returned (.agg es) ∧ IsPt es zeroP) ∧ Below w.heap.size w w'
theorem PtCalls.isz {IsPt : Array Value → PtN → Prop} {zv : Array Value} {N : Nat} (C : PtCalls IsPt zv N) {cs : Array Value} {p : PtN} (h : IsPt cs p) : (Tryd.prog.info? 28).map (·.size) = some cs.size := by rw [C.size cs p h]; exact (zero_of_info C.info).2
theorem PtCalls.zsz {IsPt : Array Value → PtN → Prop} {zv : Array Value} {N : Nat} (C : PtCalls IsPt zv N) {cs : Array Value} {p : PtN} (h : IsPt cs p) : zv.size = cs.size := by rw [C.size cs p h]; exact C.zsize
theorem PtCalls.same {IsPt : Array Value → PtN → Prop} {zv : Array Value} {N : Nat} (C : PtCalls IsPt zv N) {cs ds : Array Value} {p q : PtN} (h : IsPt cs p) (k : IsPt ds q) : cs.size = ds.size := by rw [C.size cs p h, C.size ds q k]
/-- A point of the program's that is laid in its block changes no digits. -/
theorem DigAt.laid {W : World} {v : Value} {l : List Nat} {B : Nat} {row : Array Value} {T : TypeId} {fr : Nat × Nat} (h : DigAt W v l) (hB : W.heap[B]? = some (.cells row T fr)) (h0 : ∃ v, row[0]? = some v ∧ ∀ n, v ≠ .int .i64 n) (new : Array Value) : DigAt (W.setRow B new) v l := by
  obtain ⟨D, cap, rfl, hc⟩ := h
  obtain ⟨u, h0, hu⟩ := h0
  have hne : D ≠ B := by
    rintro rfl
    have h1 := hc 0 (by decide)
    rw [cell_of_row _ _ _ _ _ _ hB, h0] at h1
    exact hu _ (Option.some.inj h1)
  exact ⟨D, cap, rfl, fun j hj => (World.cell?_of_block (a := ⟨D, j, none⟩) (setRow_other _ _ _ _ hne)).trans (hc j hj)⟩
theorem PtAt.laid {W : World} {v : Value} {p : PtN} {B : Nat} {row : Array Value} {T : TypeId} {fr : Nat × Nat} (h : PtAt W v p) (hB : W.heap[B]? = some (.cells row T fr)) (h0 : ∃ v, row[0]? = some v ∧ ∀ n, v ≠ .int .i64 n) (new : Array Value) : PtAt (W.setRow B new) v p := by
  obtain ⟨vx, vy, vz, vt, rfl, h1, h2, h3, h4⟩ := h
  exact ⟨vx, vy, vz, vt, rfl, h1.laid hB h0 new, h2.laid hB h0 new, h3.laid hB h0 new, h4.laid hB h0 new⟩
/-- What is known of a value: it is such a point. -/
def tIs (IsPt : Array Value → PtN → Prop) (p : PtN) : Told := ⟨fun _ v => ∃ cs, v = .agg cs ∧ IsPt cs p, fun _ _ _ _ h => h⟩
theorem isOf {IsPt : Array Value → PtN → Prop} {P : Program} {f : Nat} {args : Array Value} {w : World} {p : PtN} (h : Calls P f args w fun e w' => (∃ es, e = .returned (.agg es) ∧ IsPt es p) ∧ Below w.heap.size w w') : Calls P f args w (fun e w'' => ∃ v, e = .returned v ∧ (tIs IsPt p).T w'' v ∧ Below w.heap.size w w'') :=
  h.mono fun e w'' ⟨⟨es, h1, h2⟩, h3⟩ => ⟨_, h1, ⟨es, rfl, h2⟩, h3⟩
theorem valOf {P : Program} {f : Nat} {args : Array Value} {w : World} {v : Value} (h : Calls P f args w fun e w' => e = .returned v ∧ Below w.heap.size w w') : Calls P f args w (fun e w'' => ∃ u, e = .returned u ∧ (Told.val v).T w'' u ∧ Below w.heap.size w w'') :=
  h.mono fun e w'' ⟨h1, h2⟩ => ⟨v, h1, rfl, h2⟩
theorem ptok (w : World) (v : Value) (p : PtN) (h : PtAt w v p) : ∃ a b c d, v = .agg #[a, b, c, d] := h.four
end Go.Proofs.YtcpdehfmlmmgiaaDoor
