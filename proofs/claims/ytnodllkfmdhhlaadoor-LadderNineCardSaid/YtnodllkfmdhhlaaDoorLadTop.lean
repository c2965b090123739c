/- The program's Share and Public, for any two texts; and the reference's Public. -/
import Derived.Test.YtnodllkfmdhhlaaDoorLadClimb
import Derived.Test.YtnodllkfmdhhlaaDoorLadFns
namespace Go.Proofs.YtnodllkfmdhhlaaDoor
open Go.RowKit Go.Sort
set_option maxRecDepth 100000
set_option linter.unusedSimpArgs false
set_option linter.unusedVariables false

/-- Whether two numbers are the same. -/
theorem wpList_num_eql {ops : Array Oper} {rest : List Oper} {o : Oper} {a : Act} {w : World} {Q : Exit → Act → World → Prop} (hg : o.guard = none) (x y : Operand) (ho : o.op = .binOp .eql 36 x y 36) (l m : List Nat) (b : Bool)
    (hl : l.length = 4) (hm : m.length = 4) (hx : a.eval x = .agg (uc l)) (hy : a.eval y = .agg (uc m)) (hb : decide (l = m) = b)
    (h : wpList Tryd.prog ops Q rest (a.put o.dst (.bool b)) w) : wpList Tryd.prog ops Q (o :: rest) a w :=
  wpList_plain hg fun _ hK => by
    have e1 : (eqGuard .eql 36 x y (.agg (uc l)) (.agg (uc m))).run Tryd.prog w = .ok () w := run_eqGuard_agg w .eql 36 x y _ _ (by kernel_rfl)
    have e2 : (binOp .eql 36 (.agg (uc l)) (.agg (uc m))).run Tryd.prog w = .ok (.bool b) w := by
      rw [run_eql_struct, num_eq l m hl hm]
      simp only [Result.andThen_ok, hb]
    unfold Oper.wp execOp
    simp only [ho, hx, hy, Sem.run_bind, e1, e2, Result.andThen_ok]
    exact hK _ _ h

set_option maxHeartbeats 1000000 in
theorem shareBad_any (s p : ByteArray) (w : World) (h : s.size ≠ 32 ∨ p.size ≠ 32) :
    Calls Tryd.prog 7 #[.string s, .string p] w fun e w' => e = .returned (.tuple #[.string ⟨#[]⟩, .int .i64 21]) ∧ w = w' := by
  by_cases h1 : s.size = 32
  · have d1 : ((s.size : Int) != 32) = false := by simp; omega
    have d2 : ((p.size : Int) != 32) = true := by simp; omega
    go_enter Tryd.func7, Tryd.ntmps7
    go_wp2_with fail
    go_ret2
    exact ⟨rfl, rfl⟩
  · have d1 : ((s.size : Int) != 32) = true := by simp; omega
    go_enter Tryd.func7, Tryd.ntmps7
    go_wp2_with fail
    go_ret2
    exact ⟨rfl, rfl⟩

set_option maxHeartbeats 2000000 in
theorem share_any (s p : ByteArray) (w : World) (hs : s.size = 32) (hp : p.size = 32) (hT : PrmQ w) :
    Calls Tryd.prog 7 #[.string s, .string p] w fun e w' => e = .returned (ansL s.data.toList p.data.toList) ∧ Below w.heap.size w w' := by
  obtain ⟨hz, hi⟩ := zero_of_info infoF
  have d1 : ((s.size : Int) != 32) = false := by simp; omega
  have d2 : ((p.size : Int) != 32) = false := by simp; omega
  have HSC := Lib.hid (fun W => scalarOf_any s W hs)
  have HNO := Lib.hid (fun W => numberOf_any p W hp)
  have hkl : (clampL s.data.toList).length = 32 := by rw [clampL_length, ← Lib.size_eq]; exact hs
  have HCL := Lib.hid (fun W hW => climbed_any (clampL s.data.toList) (pubF p.data.toList) W hkl (pubF_lt _) hW)
  have HCL : Hid (∀ W, PrmQ W → Calls Tryd.prog 12 #[.agg (bcells (clampL s.data.toList)), .agg (uc (limN 4 (pubF p.data.toList)))] W fun e w' => e = .returned (.agg (uc (limN 4 (shareF s.data.toList p.data.toList)))) ∧ Below W.heap.size W w') := HCL
  have hlt := shareF_lt s.data.toList p.data.toList
  have HSL : Hid (shareL s.data.toList p.data.toList = leF (shareF s.data.toList p.data.toList) 32) := Lib.hid rfl
  have HA : Hid (ansL s.data.toList p.data.toList = if shareF s.data.toList p.data.toList = 0 then .tuple #[.string ⟨#[]⟩, .int .i64 21] else .tuple #[.string ⟨(leF (shareF s.data.toList p.data.toList) 32).toArray⟩, .int .i64 0]) := Lib.hid rfl
  obtain ⟨r, hr⟩ : ∃ r, shareF s.data.toList p.data.toList = r := ⟨_, rfl⟩
  rw [hr] at HCL hlt HA
  have HB := Lib.hid (fun W => bytesF_any r W)
  have hsm := lim_same r 0 hlt pF_pos
  have Ir := Lib.hid (sizeF' r); have Zr := Lib.hid (zerosF_size r); have Or := Lib.hid (uc_one (limN 4 r)); have L0 := Lib.hid (limN_length 4 0); have Lr := Lib.hid (limN_length 4 r)
  have HT := Lib.hid hT
  clear hr hlt hkl hs hp hT HSL hi
  by_cases h0 : r = 0
  · have hb0 : decide (limN 4 r = limN 4 0) = true := by rw [hsm]; simp [h0]
    have HBE := Lib.hid hb0
    rw [HA.out, if_pos h0]
    clear hsm h0 hb0 HA HB
    go_enter Tryd.func7, Tryd.ntmps7
    go_wp2_with fail
    refine (HSC.out w).mono ?_
    rintro e W1 ⟨rfl, b1⟩
    go_wp2_with fail
    refine (HNO.out W1).mono ?_
    rintro e W2 ⟨rfl, b2⟩
    have b2 := b1.trans (b2.mono b1.size)
    go_wp2_with fail
    refine (HCL.out W2 (HT.out.step b2)).mono ?_
    rintro e W3 ⟨rfl, b3⟩
    have b3 := b2.trans (b3.mono b2.size)
    have HN := Lib.hid (blk_new W3 (.cells zeros4 36))
    have HNN := Lib.hid (setRow_heap _ W3.heap.size _ (uc (limN 4 r)) _ _ HN.out)
    have b4 : Below w.heap.size w ((W3.alloc (.cells zeros4 36)).setRow W3.heap.size (uc (limN 4 r))) := below_setRow (b3.alloc b3.size _) b3.size _
    clear HSC HNO HCL b1 b2
    go_wp2_with (first
      | (with_reducible refine wpList_store_row rfl 36 _ _ rfl W3.heap.size (uc (limN 4 r)) rfl rfl 36 _ HN.out Ir.out Zr.out Or.out ?_)
      | (with_reducible refine wpList_load_row rfl 36 _ rfl W3.heap.size rfl 36 _ (0, 0) _ HNN.out Tryd.underlying36 rfl Ir.out ?_)
      | (with_reducible refine wpList_build_zero' rfl rfl ?_)
      | (with_reducible refine wpList_num_eql rfl _ _ rfl (limN 4 r) (limN 4 0) true Lr.out L0.out rfl rfl HBE.out ?_))
    go_ret2
    exact ⟨rfl, b4⟩
  · have hb0 : decide (limN 4 r = limN 4 0) = false := by rw [hsm]; simp [h0]
    have HBE := Lib.hid hb0
    rw [HA.out, if_neg h0]
    clear hsm h0 hb0 HA
    generalize (⟨(leF r 32).toArray⟩ : ByteArray) = z at *
    go_enter Tryd.func7, Tryd.ntmps7
    go_wp2_with fail
    refine (HSC.out w).mono ?_
    rintro e W1 ⟨rfl, b1⟩
    go_wp2_with fail
    refine (HNO.out W1).mono ?_
    rintro e W2 ⟨rfl, b2⟩
    have b2 := b1.trans (b2.mono b1.size)
    go_wp2_with fail
    refine (HCL.out W2 (HT.out.step b2)).mono ?_
    rintro e W3 ⟨rfl, b3⟩
    have b3 := b2.trans (b3.mono b2.size)
    have HN := Lib.hid (blk_new W3 (.cells zeros4 36))
    have HNN := Lib.hid (setRow_heap _ W3.heap.size _ (uc (limN 4 r)) _ _ HN.out)
    have b4 : Below w.heap.size w ((W3.alloc (.cells zeros4 36)).setRow W3.heap.size (uc (limN 4 r))) := below_setRow (b3.alloc b3.size _) b3.size _
    clear HSC HNO HCL b1 b2
    go_wp2_with (first
      | (with_reducible refine wpList_store_row rfl 36 _ _ rfl W3.heap.size (uc (limN 4 r)) rfl rfl 36 _ HN.out Ir.out Zr.out Or.out ?_)
      | (with_reducible refine wpList_load_row rfl 36 _ rfl W3.heap.size rfl 36 _ (0, 0) _ HNN.out Tryd.underlying36 rfl Ir.out ?_)
      | (with_reducible refine wpList_build_zero' rfl rfl ?_)
      | (with_reducible refine wpList_num_eql rfl _ _ rfl (limN 4 r) (limN 4 0) false Lr.out L0.out rfl rfl HBE.out ?_))
    refine (HB.out _).mono ?_
    rintro e W5 ⟨rfl, b5⟩
    go_wp2_with fail
    go_ret2
    exact ⟨rfl, b4.trans (b5.mono b4.size)⟩

/-- The answer for any two texts. -/
def okLB (s p : ByteArray) : Bool := decide (s.size = 32) && decide (p.size = 32) && decide (shareF s.data.toList p.data.toList ≠ 0)
def shareX (s p : ByteArray) : ByteArray := if okLB s p then ⟨(shareL s.data.toList p.data.toList).toArray⟩ else ⟨#[]⟩
def shareE (s p : ByteArray) : Int := if okLB s p then 0 else 21
theorem ansL_eq (s p : ByteArray) (hs : s.size = 32) (hp : p.size = 32) : ansL s.data.toList p.data.toList = .tuple #[.string (shareX s p), .int .i64 (shareE s p)] := by
  rw [ansL, shareX, shareE, okLB]
  by_cases h : shareF s.data.toList p.data.toList = 0
  · simp [hs, hp, h]
  · simp [hs, hp, h]
theorem bad_eq (s p : ByteArray) (h : s.size ≠ 32 ∨ p.size ≠ 32) : okLB s p = false := by
  rw [okLB]
  rcases h with h | h <;> simp [h]
theorem shareT_any (s p : ByteArray) (w : World) (hT : PrmQ w) :
    Calls Tryd.prog 7 #[.string s, .string p] w fun e w' => e = .returned (.tuple #[.string (shareX s p), .int .i64 (shareE s p)]) ∧ Below w.heap.size w w' := by
  by_cases h : s.size = 32 ∧ p.size = 32
  · rw [← ansL_eq s p h.1 h.2]
    exact share_any s p w h.1 h.2 hT
  · have h' : s.size ≠ 32 ∨ p.size ≠ 32 := by omega
    rw [shareX, shareE, bad_eq s p h']
    exact (shareBad_any s p w h').mono fun e w' ⟨h1, h2⟩ => ⟨h1, h2 ▸ Below.refl _ _⟩
/-- The text of 9. -/
def nineT : ByteArray := ⟨nineL.toArray⟩
theorem nine_bytes : (⟨(leF 9 32).toArray⟩ : ByteArray) = nineT := by decide
theorem nineT_list : nineT.data.toList = nineL := rfl
theorem nineT_size : nineT.size = 32 := rfl

set_option maxHeartbeats 1000000 in
theorem publicT_any (s : ByteArray) (w : World) (hT : PrmQ w) :
    Calls Tryd.prog 10 #[.string s] w fun e w' => e = .returned (.tuple #[.string (shareX s nineT), .int .i64 (shareE s nineT)]) ∧ Below w.heap.size w w' := by
  have C9 : Hid (∀ W : World, Calls Tryd.prog 24 #[.int .i64 9] W fun e w' => e = .returned (.agg (uc (limN 4 9))) ∧ Below W.heap.size W w') := Lib.hid (fun W => smallPos_any 9 W (by decide))
  have CB := Lib.hid (fun W => bytesF_any 9 W)
  rw [nine_bytes] at CB
  have CS := Lib.hid (fun W hW => shareT_any s nineT W hW)
  have HT := Lib.hid hT
  generalize shareX s nineT = x at *
  generalize shareE s nineT = q at *
  generalize nineT = t at *
  clear hT
  go_enter Tryd.func10, Tryd.ntmps10
  go_wp2_with fail
  refine (C9.out w).mono ?_
  rintro e W1 ⟨rfl, b1⟩
  go_wp2_with fail
  refine (CB.out W1).mono ?_
  rintro e W2 ⟨rfl, b2⟩
  have b2 := b1.trans (b2.mono b1.size)
  go_wp2_with fail
  refine (CS.out W2 (HT.out.step b2)).mono ?_
  rintro e W3 ⟨rfl, b3⟩
  go_wp2_with fail
  go_ret2
  exact ⟨rfl, b2.trans (b3.mono b2.size)⟩
end Go.Proofs.YtnodllkfmdhhlaaDoor
