/- The program's number of bytes, and its bytes of a number. -/
import Derived.Test.YtjgpcfjnanideaaDoorScaMul
namespace Go.Proofs.YtjgpcfjnanideaaDoor
open Go.RowKit Go.Sort
set_option maxRecDepth 100000
set_option linter.unusedSimpArgs false
set_option linter.unusedVariables false

theorem build_unit (w : World) : (Instr.build 33 #[(0, .int .i64 1)]).run Tryd.prog w = .ok (.agg (nuC ((1 : Nat) : Int))) w := by
  rw [nuC, show limI 7 ((1 : Nat) : Int) = [1, 0, 0, 0, 0, 0, 0, 0] by decide +kernel]
  exact run_build w 33 _ _ (by kernel_rfl)
theorem wpList_build_unit {ops : Array Oper} {rest : List Oper} {o : Oper} {a : Act} {w : World} {Q : Exit → Act → World → Prop} (hg : o.guard = none) (x : Operand) (ho : o.op = .build 33 #[(0, x)]) (hx : a.eval x = .int .i64 1)
    (h : wpList Tryd.prog ops Q rest (a.put o.dst (.agg (nuC ((1 : Nat) : Int)))) w) : wpList Tryd.prog ops Q (o :: rest) a w :=
  wpList_plain hg fun _ hK => wp_built 33 #[(0, x)] ho (nuC ((1 : Nat) : Int)) (by
    have e : (#[(0, x)] : Array (Nat × Operand)).map (fun (i, x) => (i, a.eval x)) = #[(0, a.eval x)] := by simp
    rw [e, hx]; exact build_unit w) (hK _ _ h)
theorem lF_big : 1 < lF := by decide

set_option maxHeartbeats 2000000 in
theorem numberOf_any (s : ByteArray) (w : World) (hs : s.size ≤ 1000) (hT : OrdQ w) :
    Calls Tryd.prog 18 #[.string s] w fun e w' => e = .returned (.agg (nuC ((nV s.data.toList % lF : Nat) : Int))) ∧ Below w.heap.size w w' := by
  obtain ⟨hz, hi⟩ := zero_of_info infoN
  have hb := below_new w (.cells izeros8 33)
  have HP := Lib.hid (hT.step hb)
  have H2 := Lib.hid (blk_new w (.cells izeros8 33))
  have C1 := Lib.hid (fun W => scaledN_any 1 s W lF_big hs)
  rw [Nat.one_mul] at C1
  have Ir := Lib.hid (nuC_size ((nV s.data.toList % lF : Nat) : Int)); have Zr := Lib.hid (nuC_zero ((nV s.data.toList % lF : Nat) : Int)); have Or := Lib.hid (nuC_one ((nV s.data.toList % lF : Nat) : Int))
  clear hi hT
  go_enter Tryd.func18, Tryd.ntmps18
  go_upto_region 1 with fail
  clear hz
  generalize (w.alloc _) = W0 at *
  generalize hBB : w.heap.size = B at *
  have HBB := Lib.hid hBB
  clear hBB
  generalize hr : ((nV s.data.toList % lF : Nat) : Int) = r at *
  have HRr := Lib.hid hr
  clear hr
  go_wp2_with (with_reducible refine wpList_build_unit rfl _ rfl rfl ?_)
  refine (C1.out W0 HP.out).mono ?_
  rintro e W1 ⟨rfl, hb1⟩
  have H21 := Lib.hid (blk_below hb1 (blk_lt H2.out) H2.out)
  have hB1 : Below B w W1 := hb.trans (hb1.mono (by have := blk_lt H2.out; omega))
  clear H2 HP hb hb1 C1
  go_wp2_with (with_reducible refine wpList_store_row rfl 33 _ _ rfl B (nuC r) rfl rfl 33 _ H21.out Ir.out Zr.out Or.out ?_)
  exact bodyPost_ret (v := .agg (nuC r)) (results_cell_row (by rfl) _ _ B 33 _ (0, 0) _ rfl (setRow_heap _ _ _ _ _ _ H21.out) Tryd.underlying33 rfl Ir.out) rfl ⟨by rw [HRr.out], by rw [HBB.out]; exact below_setRow hB1 (Nat.le_refl _) _⟩

/-- A byte of a number's limbs. -/
theorem low_wrap (z p : Nat) : IntKind.i64.wrap ((z % 18446744073709551616 + p : Nat) : Int) % 256 = (((p + z) % 256 : Nat) : Int) := by
  rw [IntKind.wrap_i64]
  omega
theorem nat_wrap (z : Nat) : (BitVec.ofInt 64 (IntKind.i64.wrap (z : Int))).toNat = z % 18446744073709551616 := by
  rw [BitVec.toNat_ofInt, IntKind.wrap_i64]
  omega
theorem shl_part (q s N t : Nat) (hN : 2 ^ s * t = N) : ∃ u, q * 2 ^ s % N = 2 ^ s * u := ⟨q % t, by rw [← hN, Nat.mul_comm q, Nat.mul_mod_mul_left]⟩
theorem pow_parts (s : Nat) (hs : s ≤ 64) : 2 ^ s * 2 ^ (64 - s) = 18446744073709551616 := by
  rw [← Nat.pow_add, show s + (64 - s) = 64 by omega]
theorem or_low (p q s : Nat) (hp : p < 2 ^ s) (hs : s ≤ 36) (h36 : p < 68719476736) : bits .or .i64 (p : Int) (IntKind.i64.wrap ((q : Int) * 2 ^ s)) % 256 = (((p + q * 2 ^ s) % 256 : Nat) : Int) := by
  obtain ⟨u, hu⟩ := shl_part q s 18446744073709551616 _ (pow_parts s (by omega))
  have e1 : (BitVec.ofInt 64 (p : Int)).toNat = p := by rw [BitVec.toNat_ofInt]; omega
  have e3 : ((q : Int) * 2 ^ s) = ((q * 2 ^ s : Nat) : Int) := by simp
  rw [e3]
  generalize q * 2 ^ s = z at *
  have e2 := nat_wrap z
  show IntKind.i64.wrap (((BitVec.ofInt 64 (p : Int) ||| BitVec.ofInt 64 (IntKind.i64.wrap (z : Int))).toNat : Nat) : Int) % 256 = _
  rw [BitVec.toNat_or, e1, e2, hu, Nat.or_comm, ← Nat.two_pow_add_eq_or_of_lt hp, ← hu]
  exact low_wrap z p
theorem limb_pow (i : Nat) : (68719476736 : Int) ^ i = ((2 ^ (36 * i) : Nat) : Int) := by rw [Nat.pow_mul]; simp
theorem limI_nat (X i : Nat) (h : i < 7) : (limI 7 (X : Int)).getD i 0 = ((X / 2 ^ (36 * i) % 68719476736 : Nat) : Int) := by rw [limI_get 7 _ i h, limb_pow]; simp
theorem limI_nat7 (X : Nat) : (limI 7 (X : Int)).getD 7 0 = ((X / 2 ^ 252 : Nat) : Int) := by rw [limI_top, limb_pow]; simp
theorem byte_at (X k : Nat) (hk : k < 32) : ∃ p q : Nat, (limI 7 (X : Int)).getD (8 * k / 36) 0 = (p : Int) ∧ (limI 7 (X : Int)).getD (8 * k / 36 + 1) 0 = (q : Int) ∧ p < 68719476736 ∧ (p / 2 ^ (8 * k % 36) + q * 2 ^ (36 - 8 * k % 36)) % 256 = X / 256 ^ k % 256 := by
  have hi : 8 * k / 36 < 7 := by omega
  refine ⟨X / 2 ^ (36 * (8 * k / 36)) % 68719476736, if 8 * k / 36 + 1 < 7 then X / 2 ^ (36 * (8 * k / 36 + 1)) % 68719476736 else X / 2 ^ 252, limI_nat X _ hi, ?_, Nat.mod_lt _ (by decide), ?_⟩
  · split
    · rename_i h; exact limI_nat X _ h
    · rename_i h
      rw [show 8 * k / 36 + 1 = 7 by omega]
      exact limI_nat7 X
  · have hq : X / 2 ^ (36 * (8 * k / 36 + 1)) = X / 2 ^ (36 * (8 * k / 36)) / 68719476736 := by rw [Nat.div_div_eq_div_mul, show 36 * (8 * k / 36 + 1) = 36 * (8 * k / 36) + 36 by omega, Nat.pow_add]
    have hX : X / 256 ^ k = X / 2 ^ (36 * (8 * k / 36)) / 2 ^ (8 * k % 36) := by
      rw [Nat.div_div_eq_div_mul, ← Nat.pow_add, show 36 * (8 * k / 36) + 8 * k % 36 = 8 * k by omega, Nat.pow_mul]
    rw [hX]
    refine limb36 _ _ (8 * k % 36) (by omega) ?_
    split
    · rename_i h
      rw [hq]
      omega
    · rename_i h
      rw [← hq, show 8 * k / 36 + 1 = 7 by omega]
end Go.Proofs.YtjgpcfjnanideaaDoor
