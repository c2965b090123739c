/- What the laws on the key schedule ask of the program's calls; the chapter's examples. -/
import Derived.Test.YtjjgakkijhjaiaaDoorKyR
namespace Go.Proofs.YtjjgakkijhjaiaaDoor
open Go.RowKit Go.Sort
set_option maxRecDepth 100000
set_option linter.unusedSimpArgs false
set_option linter.unusedVariables false

/-- The two tables of package sha lie in their variables. -/
def ShQ (w : World) : Prop := TabK w kf ∧ TabH w hf
theorem ShQ.step {w w' : World} (h : ShQ w) (hb : Below w.heap.size w w') : ShQ w' := ⟨h.1.below hb h.1.lt, h.2.below hb h.2.lt⟩
structure KyCalls : Prop where
  early : ∀ (w : World), ShQ w → Calls Tryd.prog 15 #[] w fun e w' => e = .returned (.string erlB) ∧ Below w.heap.size w w'
  secret : ∀ (f l s : ByteArray) (w : World), ShQ w → f.size ≤ 100000 → l.size ≤ 100000 → s.size ≤ 100000 → Calls Tryd.prog 12 #[.string f, .string l, .string s] w fun e w' => e = .returned (.tuple #[.string (secX f l s), .int .i64 (secE l)]) ∧ Below w.heap.size w w'
  handshake : ∀ (s : ByteArray) (w : World), ShQ w → s.size ≤ 100000 → Calls Tryd.prog 14 #[.string s] w fun e w' => e = .returned (.string (hsB s)) ∧ Below w.heap.size w w'
  master : ∀ (s : ByteArray) (w : World), ShQ w → s.size ≤ 100000 → Calls Tryd.prog 18 #[.string s] w fun e w' => e = .returned (.string (maB s)) ∧ Below w.heap.size w w'
  traffic : ∀ (n : Int) (s : ByteArray) (w : World), ShQ w → s.size ≤ 100000 → Calls Tryd.prog 20 #[.int .i64 n, .string s] w fun e w' => e = .returned (.tuple #[.string (traX n s), .string (traI n s), .int .i64 (traE n)]) ∧ Below w.heap.size w w'
  next : ∀ (s : ByteArray) (w : World), ShQ w → s.size ≤ 100000 → Calls Tryd.prog 22 #[.string s] w fun e w' => e = .returned (.string (nxB s)) ∧ Below w.heap.size w w'
  tag : ∀ (s d : ByteArray) (w : World), ShQ w → s.size ≤ 100000 → d.size ≤ 100000 → Calls Tryd.prog 24 #[.string s, .string d] w fun e w' => e = .returned (.string (tagB s d)) ∧ Below w.heap.size w w'
  signed : ∀ (b : Bool) (s : ByteArray) (w : World), ShQ w → s.size ≤ 100000 → Calls Tryd.prog 26 #[.bool b, .string s] w fun e w' => e = .returned (.string (sigB b s)) ∧ Below w.heap.size w w'
set_option maxHeartbeats 2000000 in
theorem kyawake_of (C : KyCalls) (w : World) (hT : ShQ w) :
    Calls Tryd.prog 11 #[] w fun e w' => e = .returned (.bool true) ∧ Below w.heap.size w w' := by
  have hb := Below.refl w.heap.size w
  have hz : erlB.size = 32 := macB_size _ _
  have CE := Lib.hid (C.early w hT)
  have CT := Lib.hid (fun W hW => C.traffic 4866 erlB W hW (by rw [hz]; decide))
  rw [show traE 4866 = 1 from rfl] at CT
  have HT := Lib.hid hT
  have e4 : (erlB.extract 0 4).toList = [51, 173, 10, 28] := by
    have h := erl_begins
    rw [beq_iff_eq] at h
    rw [Lib.toList_data, Lib.extract_eq, List.drop_zero]
    exact h
  generalize traX 4866 erlB = x1 at *
  generalize traI 4866 erlB = x2 at *
  generalize erlB = s at *
  have hzi : (s.size : Int) = 32 := by omega
  have i4 : (4 : Int) ≤ (s.size : Int) := by omega
  clear hT
  go_enter Tryd.func11, Tryd.ntmps11
  go_wp2_with fail
  refine CE.out.mono ?_
  rintro e W1 ⟨rfl, bk⟩
  replace hb := hb.trans (bk.mono hb.size)
  have HT1 := Lib.hid (HT.out.step bk)
  clear bk CE HT
  go_wp2_with fail
  refine (CT.out _ HT1.out).mono ?_
  rintro e W2 ⟨rfl, bk⟩
  replace hb := hb.trans (bk.mono hb.size)
  clear bk CT HT1
  go_wp2_with fail
  go_ret
  exact ⟨by first | rfl | (simp [e4]; done), hb⟩
end Go.Proofs.YtjjgakkijhjaiaaDoor
