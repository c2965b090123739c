/- The program's small functions on polynomials: plus, only, raised; bits; The program's blocks: number, put, blockOf, blockOfTwo, counterBlock; The program's product of polynomials; The program's digest and Hash; The program's Hash, and its blocks encrypted; The program's xored: a text with the key's stream; A slice of two blocks, built; The program's tag; Whether two texts are the same: package mac's Same; The program's Seal and Open. -/
import Derived.Test.YtffnafikegakcaaGreatDoorGcmA
import Derived.Test.YtffnafikegakcaaGreatDoorAesP
import Derived.Test.YtffnafikegakcaaGreatDoorBase
import Derived.Test.YtffnafikegakcaaGreatDoorAesR
import Derived.Great.BuildSlice
namespace Go.Proofs.YtffnafikegakcaaGreatDoor
section
open Go.RowKit Go.Sort
set_option maxRecDepth 100000
set_option linter.unusedSimpArgs false
set_option linter.unusedVariables false

/-- The cells of a polynomial. -/
def pw2 (x y : Nat) : Array Value := #[.int .u64 (x : Int), .int .u64 (y : Int)]
def pzero : Array Value := pw2 0 0
theorem infoP : (Tryz.prog.info? 142).map (fun i => (i.zero, i.size)) = some (some (.agg pzero), 2) := by kernel_rfl
theorem sizeP (x y : Nat) : (Tryz.prog.info? 142).map (·.size) = some (pw2 x y).size := (zero_of_info infoP).2
theorem pzero_size (x y : Nat) : pzero.size = (pw2 x y).size := rfl
theorem pw2_one (x y : Nat) : (pw2 x y).all (·.oneCell') = true := by simp [pw2, Value.oneCell']
theorem pw2_cells {W : World} {B x y : Nat} {T : TypeId} {fr : Nat × Nat} (h : W.heap[B]? = some (.cells (pw2 x y) T fr)) : W.cell? ⟨B, 0, none⟩ = some (.int .u64 (x : Int)) ∧ W.cell? ⟨B, 1, none⟩ = some (.int .u64 (y : Int)) := by
  rw [cell_of_row _ _ _ _ _ _ h, cell_of_row _ _ _ _ _ _ h]; exact ⟨rfl, rfl⟩

theorem pw2_build (a b : Nat) : (pzero.setIfInBounds 0 (.int .u64 (a : Int))).setIfInBounds 1 (.int .u64 (b : Int)) = pw2 a b := rfl

set_option maxHeartbeats 1000000 in
theorem gplus_any (x y u v : Nat) (w : World) (hx : x < 18446744073709551616) (hy : y < 18446744073709551616) (hu : u < 18446744073709551616) (hv : v < 18446744073709551616) :
    Calls Tryz.prog 111 #[.agg (pw2 x y), .agg (pw2 u v)] w fun e w' => e = .returned (.agg (pw2 (x ^^^ u) (y ^^^ v))) ∧ Below w.heap.size w w' := by
  obtain ⟨hz, hi⟩ := zero_of_info infoP
  have HR0 := Lib.hid (blk_new3 w (.cells (pw2 x y) 142) (.cells (pw2 u v) 142) (.cells pzero 142))
  have hb0 := below_new3 w (.cells (pw2 x y) 142) (.cells (pw2 u v) 142) (.cells pzero 142)
  obtain ⟨c0, c1⟩ := pw2_cells (blk_old (o := .cells pzero 142) (blk_old (o := .cells (pw2 u v) 142) (blk_new w (.cells (pw2 x y) 142))))
  obtain ⟨c2, c3⟩ := pw2_cells (blk_old (o := .cells pzero 142) (blk_new2 w (.cells (pw2 x y) 142) (.cells (pw2 u v) 142)))
  have e1 := u64_xor_nat x u hx hu
  have e2 := u64_xor_nat y v hy hv
  generalize x ^^^ u = p at *
  generalize y ^^^ v = q at *
  have HI := Lib.hid (sizeP p q)
  have HO := Lib.hid (pzero_size p q)
  have H1 := Lib.hid (pw2_one p q)
  have hbd := pw2_build p q
  clear hi
  go_enter Tryz.func111, Tryz.ntmps111
  go_wp2_with (with_reducible refine wpList_store_row rfl 142 _ _ rfl (w.heap.size + 1 + 1) (pw2 p q) rfl rfl 142 _ HR0.out HI.out HO.out H1.out ?_)
  exact bodyPost_ret (v := .agg (pw2 p q)) (results_cell_row (by rfl) _ _ (w.heap.size + 1 + 1) 142 _ (0, 0) _ rfl (setRow_heap _ _ _ _ _ _ HR0.out) Tryz.underlying142 rfl HI.out) rfl ⟨rfl, below_setRow hb0 (by omega) _⟩

theorem neg_bit (b : Nat) (hb : b < 2) (x : Nat) (hx : x < 18446744073709551616) : bits .and .u64 (x : Int) (IntKind.u64.wrap (-(b : Int))) = ((if b = 1 then x else 0 : Nat) : Int) := by
  rcases (show b = 0 ∨ b = 1 by omega) with rfl | rfl
  · have := u64_and_nat x 0 hx (by decide)
    rw [Nat.and_zero] at this
    simpa [IntKind.wrap_u64] using this
  · have := u64_and_nat x 18446744073709551615 hx (by decide)
    rw [show (18446744073709551615 : Nat) = 2 ^ 64 - 1 from rfl, Nat.and_two_pow_sub_one_eq_mod, Nat.mod_eq_of_lt hx] at this
    simpa [IntKind.wrap_u64] using this

set_option maxHeartbeats 1000000 in
theorem gonly_any (x y b : Nat) (w : World) (hx : x < 18446744073709551616) (hy : y < 18446744073709551616) (hb : b < 2) :
    Calls Tryz.prog 135 #[.agg (pw2 x y), .int .u64 (b : Int)] w fun e w' => e = .returned (.agg (pw2 (if b = 1 then x else 0) (if b = 1 then y else 0))) ∧ Below w.heap.size w w' := by
  obtain ⟨hz, hi⟩ := zero_of_info infoP
  have HR0 := Lib.hid (blk_new2 w (.cells (pw2 x y) 142) (.cells pzero 142))
  have hb0 := below_new2 w (.cells (pw2 x y) 142) (.cells pzero 142)
  obtain ⟨c0, c1⟩ := pw2_cells (blk_old (o := .cells pzero 142) (blk_new w (.cells (pw2 x y) 142)))
  have e1 := neg_bit b hb x hx
  have e2 := neg_bit b hb y hy
  have l1 : (if b = 1 then x else 0) < 18446744073709551616 := by split <;> omega
  have l2 : (if b = 1 then y else 0) < 18446744073709551616 := by split <;> omega
  generalize (if b = 1 then x else 0) = p at *
  generalize (if b = 1 then y else 0) = q at *
  have HI := Lib.hid (sizeP p q)
  have HO := Lib.hid (pzero_size p q)
  have H1 := Lib.hid (pw2_one p q)
  have hbd := pw2_build p q
  clear hi
  go_enter Tryz.func135, Tryz.ntmps135
  go_wp2_with (with_reducible refine wpList_store_row rfl 142 _ _ rfl (w.heap.size + 1) (pw2 p q) rfl rfl 142 _ HR0.out HI.out HO.out H1.out ?_)
  exact bodyPost_ret (v := .agg (pw2 p q)) (results_cell_row (by rfl) _ _ (w.heap.size + 1) 142 _ (0, 0) _ rfl (setRow_heap _ _ _ _ _ _ HR0.out) Tryz.underlying142 rfl HI.out) rfl ⟨rfl, below_setRow hb0 (by omega) _⟩

/-- The words of a product with x. -/
def rs0 (x y : Nat) : Nat := x / 2 ^^^ (if y % 2 = 1 then 16212958658533785600 else 0)
def rs1 (x y : Nat) : Nat := y / 2 ||| (x * 9223372036854775808) % 18446744073709551616
theorem and_onew (y : Nat) (hy : y < 18446744073709551616) : bits .and .u64 (y : Int) 1 = ((y % 2 : Nat) : Int) := by
  have h := u64_and_nat y 1 hy (by decide)
  rw [Nat.and_one_is_mod] at h
  exact h
set_option maxHeartbeats 1000000 in
theorem raised_any (x y : Nat) (w : World) (hx : x < 18446744073709551616) (hy : y < 18446744073709551616) :
    Calls Tryz.prog 136 #[.agg (pw2 x y)] w fun e w' => e = .returned (.agg (pw2 (rs0 x y) (rs1 x y))) ∧ Below w.heap.size w w' := by
  obtain ⟨hz, hi⟩ := zero_of_info infoP
  have HR0 := Lib.hid (blk_new2 w (.cells (pw2 x y) 142) (.cells pzero 142))
  have hb0 := below_new2 w (.cells (pw2 x y) 142) (.cells pzero 142)
  obtain ⟨c0, c1⟩ := pw2_cells (blk_old (o := .cells pzero 142) (blk_new w (.cells (pw2 x y) 142)))
  have e1 := and_onew y hy
  have l2 : y % 2 < 2 := Nat.mod_lt _ (by decide)
  have e2 : bits .and .u64 (IntKind.u64.wrap (-((y % 2 : Nat) : Int))) 16212958658533785600 = ((if y % 2 = 1 then 16212958658533785600 else 0 : Nat) : Int) := by
    rcases (show y % 2 = 0 ∨ y % 2 = 1 by omega) with h | h <;> rw [h] <;> decide +kernel
  have l3 : (if y % 2 = 1 then 16212958658533785600 else 0) < 18446744073709551616 := by split <;> decide
  have e3 := u64_xor_nat (x / 2) (if y % 2 = 1 then 16212958658533785600 else 0) (by omega) l3
  rw [show x / 2 ^^^ (if y % 2 = 1 then 16212958658533785600 else 0) = rs0 x y from rfl] at e3
  have e4 := u64_or_nat (y / 2) ((x * 9223372036854775808) % 18446744073709551616) (by omega) (Nat.mod_lt _ (by decide))
  rw [show y / 2 ||| (x * 9223372036854775808) % 18446744073709551616 = rs1 x y from rfl] at e4
  have e5 : ((x / 2 : Nat) : Int) = (x : Int) / 2 := by simp
  have e6 : ((y / 2 : Nat) : Int) = (y : Int) / 2 := by simp
  have e7 : (((x * 9223372036854775808) % 18446744073709551616 : Nat) : Int) = (x : Int) * 9223372036854775808 % 18446744073709551616 := by simp
  rw [e5] at e3
  rw [e6, e7] at e4
  clear e5 e6 e7
  have e8 : IntKind.u64.wrap ((x : Int) * 9223372036854775808) = (x : Int) * 9223372036854775808 % 18446744073709551616 := IntKind.wrap_u64 _
  generalize (if y % 2 = 1 then 16212958658533785600 else 0) = c at *
  generalize y % 2 = o at *
  generalize rs0 x y = p at *
  generalize rs1 x y = q at *
  have HI := Lib.hid (sizeP p q)
  have HO := Lib.hid (pzero_size p q)
  have H1 := Lib.hid (pw2_one p q)
  have hbd := pw2_build p q
  clear hi
  go_enter Tryz.func136, Tryz.ntmps136
  go_wp2_with (with_reducible refine wpList_store_row rfl 142 _ _ rfl (w.heap.size + 1) (pw2 p q) rfl rfl 142 _ HR0.out HI.out HO.out H1.out ?_)
  exact bodyPost_ret (v := .agg (pw2 p q)) (results_cell_row (by rfl) _ _ (w.heap.size + 1) 142 _ (0, 0) _ rfl (setRow_heap _ _ _ _ _ _ HR0.out) Tryz.underlying142 rfl HI.out) rfl ⟨rfl, below_setRow hb0 (by omega) _⟩

set_option maxHeartbeats 1000000 in
theorem gbits_any (s : ByteArray) (w : World) (hs : s.size ≤ 1099511627776) :
    Calls Tryz.prog 91 #[.string s] w fun e w' => e = .returned (.int .u64 ((8 * s.size : Nat) : Int)) ∧ w = w' := by
  have e1 : (s.size : Int) % 18446744073709551616 = (s.size : Int) := by omega
  have e2 : (8 * (s.size : Int)) % 18446744073709551616 = ((8 * s.size : Nat) : Int) := by omega
  go_enter Tryz.func91, Tryz.ntmps91
  go_wp2_with fail
  go_ret
  exact ⟨by first | rfl | (rw [← e2]; rfl), rfl⟩
end

section
open Go.RowKit Go.Sort
set_option maxRecDepth 100000
set_option linter.unusedSimpArgs false
set_option linter.unusedVariables false

theorem nb_walk (l : List UInt8) (k : Nat) : bits .or .u64 (IntKind.u64.wrap (((nbK l k : Nat) : Int) * 256)) (((l.getD k 0).toNat : Nat) : Int) = ((nbK l (k + 1) : Nat) : Int) := by
  have e : IntKind.u64.wrap (((nbK l k : Nat) : Int) * 256) = (((nbK l k * 256) % 18446744073709551616 : Nat) : Int) := by rw [IntKind.wrap_u64]; simp
  rw [e, u64_or_nat _ _ (Nat.mod_lt _ (by decide)) (Nat.lt_of_lt_of_le (UInt8.toNat_lt _) (by decide))]
  rfl

set_option maxHeartbeats 1000000 in
theorem number_any (l : List UInt8) (b off n cap : Nat) (w : World) (hl : l.length = n) (hn : n ≤ 8) (hc : ∀ j x, l[j]? = some x → w.cell? ⟨b, off + j, none⟩ = some (.int .u8 (x.toNat : Int))) :
    Calls Tryz.prog 134 #[.slice (some ⟨b, off, none⟩) n cap] w fun e w' => e = .returned (.int .u64 ((nbK l n : Nat) : Int)) ∧ w = w' := by
  have HC := Lib.hid hc
  have HN := Lib.hid hl
  clear hc hl
  go_enter Tryz.func134, Tryz.ntmps134
  go_wp2_with fail
  go_loopw [3, 8] (fun ov i wr => ∃ k : Nat, k ≤ n ∧ i = .int .i64 (k : Int) ∧ ov = .int .u64 ((nbK l k : Nat) : Int) ∧ w = wr) (fun _ i _ => n - (intOf i).toNat)
  case atStart => exact ⟨0, by omega, rfl, rfl, rfl⟩
  case round =>
    obtain ⟨k, hk, rfl, rfl, rfl⟩ := hrel
    by_cases hlt : k < n
    · have hd : decide ((k : Int) < (n : Int)) = true := by simp; omega
      have hkl : k < l.length := by rw [HN.out]; exact hlt
      have hx := HC.out k (l.getD k 0) (by rw [List.getD_eq_getElem?_getD, List.getElem?_eq_getElem hkl]; rfl)
      have HW := Lib.hid (nb_walk l k)
      have hb := UInt8.toNat_lt (l.getD k 0)
      generalize nbK l k = o at *
      generalize (l.getD k 0).toNat = x at *
      have e1 : (x : Int) % 18446744073709551616 = (x : Int) := by omega
      go_wp2_with fail
      go_roundw
      case rel => exact ⟨k + 1, by omega, by go_num, by rw [← HW.out], trivial⟩
      case measure => simp [intOf]; omega
    · have hd : decide ((k : Int) < (n : Int)) = false := by simp; omega
      obtain rfl : k = n := by omega
      go_wp2_with fail
      go_ret
      exact ⟨rfl, rfl⟩

set_option maxHeartbeats 1000000 in
theorem put_any (l : List UInt8) (b off n cap : Nat) (T : TypeId) (v : Nat) (w : World) (hg : w.heap[b]? = some (.cells (bcells l) T)) (hl : l.length = 16) (hn : n ≤ 8) (ho : off + n ≤ 16) :
    Calls Tryz.prog 108 #[.slice (some ⟨b, off, none⟩) n cap, .int .u64 (v : Int)] w fun e w' => e = .returned (.tuple #[]) ∧ w'.heap[b]? = some (.cells (bcells (putB l off n v n)) T) ∧ But b w w' := by
  have HG := Lib.hid (show w.heap[b]? = some (.cells (bcells (putB l off n v 0)) T) by rw [putB_zero _ _ _ _ hl]; exact hg)
  clear hg
  go_enter Tryz.func108, Tryz.ntmps108
  go_wp2_with fail
  go_loopw [7] (fun i wr => ∃ k : Nat, k ≤ n ∧ i = .int .i64 (k : Int) ∧ wr.heap[b]? = some (.cells (bcells (putB l off n v k)) T) ∧ But b w wr) (fun i _ => n - (intOf i).toNat)
  case atStart => exact ⟨0, by omega, rfl, HG.out, But.refl _ _⟩
  case round =>
    clear HG
    obtain ⟨k, hk, rfl, hg, hb⟩ := hrel
    have HG := Lib.hid hg
    clear hg
    by_cases hlt : k < n
    · have hd : decide ((k : Int) < (n : Int)) = true := by simp; omega
      have hj : off + (n - 1 - k) < (putB l off n v k).length := by rw [putB_length]; omega
      have hx : wr.cell? ⟨b, off + (n - 1 - k), none⟩ = some (.int .u8 ((putB l off n v k)[off + (n - 1 - k)].toNat : Int)) := by rw [cell_of_row wr _ _ _ _ _ HG.out]; exact bcells_get _ _ _ (List.getElem?_eq_getElem hj)
      have hf : wr.frozen? ⟨b, off + (n - 1 - k), none⟩ = false := frozen_of_row wr _ _ _ _ HG.out
      generalize ((putB l off n v k)[off + (n - 1 - k)].toNat : Int) = x at hx
      have HS := Lib.hid (show ∀ x : Int, x = (v : Int) / 2 ^ (8 * k) % 256 → (wr.setCell ⟨b, off + (n - 1 - k), none⟩ (.int .u8 x)).heap[b]? = some (.cells (bcells (putB l off n v (k + 1))) T) from by
        rintro x rfl
        rw [← wbyte_toNat (v : Int) (8 * k), ← putB_succ l off n v k hlt ho, ← bcells_set]
        exact Go.heap_setCell_same _ _ _ _ _ _ HG.out)
      have e8 : (8 * (k : Int)).toNat = 8 * k := by omega
      have n8 : (0 : Int) ≤ 8 * (k : Int) := by omega
      have e9 : IntKind.i64.wrap ((n : Int) - 1) = (n : Int) - 1 := IntWalk.i64_in _ (by omega)
      have e10 : IntKind.i64.wrap ((n : Int) - 1 - (k : Int)) = (n : Int) - 1 - (k : Int) := IntWalk.i64_in _ (by omega)
      have e11 : ((n : Int) - 1 - (k : Int)).toNat = n - 1 - k := by omega
      have e12 : (0 : Int) ≤ (n : Int) - 1 - (k : Int) := by omega
      have e13 : (n : Int) - 1 - (k : Int) < (n : Int) := by omega
      go_wp2_with fail
      go_roundw
      case rel => exact ⟨k + 1, by omega, by go_num, HS.out _ (by simp), hb.trans (But.setCell _ _ _ _ rfl)⟩
      case measure => simp [intOf]; omega
    · have hd : decide ((k : Int) < (n : Int)) = false := by simp; omega
      obtain rfl : k = n := by omega
      go_wp2_with fail
      go_end0
      exact ⟨rfl, HG.out, hb⟩

def gzeros : Array Value := bcells zeroB
theorem infoB : (Tryz.prog.info? 119).map (fun i => (i.zero, i.size)) = some (some (.agg gzeros), 16) := by kernel_rfl
theorem sizeG (l : List UInt8) (h : l.length = 16) : (Tryz.prog.info? 119).map (·.size) = some (bcells l).size := by rw [bcells_size, h]; exact (zero_of_info infoB).2
theorem gzeros_size (l : List UInt8) (h : l.length = 16) : gzeros.size = (bcells l).size := by rw [bcells_size, h]; exact bcells_size _

/-- The copy of a text's beginning into a new block. -/
theorem copy_block_any (V : World) (g : Nat) (k : ByteArray) (hg : V.heap[g]? = some (.cells gzeros 119)) :
    (Builtin.copy_ #[46, 9] 3 #[.slice (some ⟨g, 0, none⟩) 16 16, .string k]).run Tryz.prog V = .ok (.int .i64 (min k.size 16 : Nat)) (V.setRow g (bcells (fitB k.data.toList))) := by
  obtain ⟨i0, hi, hz0, hz1, hz2⟩ := info_parts info_u8
  have hlen : (Lib.byteCells (k.data.toList.take 16)).length = min k.size 16 := by rw [Lib.byteCells_length, List.length_take, ← Lib.size_eq, Nat.min_comm]
  have hst := _root_.Go.run_storeCells_at Tryz.prog g 0 119 (Lib.byteCells (k.data.toList.take 16)) 0 gzeros V hg (by rw [hlen, show gzeros.size = 16 from bcells_size _]; omega) (Lib.byteCells_one _)
  have htk : List.take (min k.size 16) (List.map (fun b : UInt8 => Value.int IntKind.u8 (b.toNat : Int)) k.data.toList) = Lib.byteCells (k.data.toList.take 16) := by
    rw [Lib.byteCells, List.map_take]
    rcases Nat.le_total k.size 16 with h | h
    · rw [Nat.min_eq_left h, List.take_of_length_le (by rw [List.length_map, ← Lib.size_eq]; exact Nat.le_refl _), List.take_of_length_le (by rw [List.length_map, ← Lib.size_eq]; exact h)]
    · rw [Nat.min_eq_right h]
  have hfin : (List.take 0 gzeros.toList ++ Lib.byteCells (k.data.toList.take 16) ++ List.drop (0 + (min k.size 16)) gzeros.toList).toArray = bcells (fitB k.data.toList) := by
    have : (k.data.toList.take 16) ++ List.replicate (16 - min k.size 16) 0 = fitB k.data.toList := bytes_ext (n := 16) (by rw [List.length_append, List.length_take, List.length_replicate, ← Lib.size_eq]; omega) (fitB_length _) fun i hi' => by
      rw [fitB, range_getD _ _ _ hi', List.getD_eq_getElem?_getD, List.getD_eq_getElem?_getD]
      by_cases h : i < k.size
      · rw [List.getElem?_append_left (by rw [List.length_take, ← Lib.size_eq]; omega), List.getElem?_take, if_pos hi']
      · rw [List.getElem?_append_right (by rw [List.length_take, ← Lib.size_eq]; omega), List.getElem?_replicate, List.getElem?_eq_none (show k.data.toList.length ≤ i by rw [← Lib.size_eq]; omega)]
        split <;> rfl
    rw [← this, show gzeros.toList = List.replicate 16 (Value.int IntKind.u8 0) from rfl, Nat.zero_add, List.drop_replicate]
    simp [bcells, Lib.byteCells]
  rw [hlen] at hst
  simp only [Nat.add_zero, Nat.zero_add, List.take_zero, List.nil_append] at hst hfin
  have hq := hi
  simp [Builtin.copy_, run_underlying Tryz.underlying46, Builtin.lenOf, Builtin.firstCells, sizeOf, typeInfo, hq, hz1]
  rw [show k.size.min 16 = min k.size 16 from rfl, htk, hst, hfin]
  rfl

set_option maxHeartbeats 1000000 in
theorem blockOf_any (s : ByteArray) (w : World) :
    Calls Tryz.prog 93 #[.string s] w fun e w' => e = .returned (.agg (bcells (fitB s.data.toList))) ∧ Below w.heap.size w w' := by
  obtain ⟨hz, hi⟩ := zero_of_info infoB
  have hl := fitB_length s.data.toList
  have HI := Lib.hid (sizeG _ hl)
  have HO := Lib.hid (gzeros_size _ hl)
  have H1 := Lib.hid (arr_one (fitB s.data.toList))
  have hB : (w.alloc (.cells gzeros 119)).heap.size = w.heap.size + 1 := by simp
  have HG0 := blk_new2 w (.cells gzeros 119) (.cells gzeros 119)
  have HR0 := blk_old (o := .cells gzeros 119) (blk_new w (.cells gzeros 119))
  have hc0 := copy_block_any ((w.alloc (.cells gzeros 119)).alloc (.cells gzeros 119)) (w.heap.size + 1) s HG0
  have sl := arr_sliced_all 119 16 (w.heap.size + 1) (by kernel_rfl) (by kernel_rfl) (by kernel_rfl) (by omega)
  have HG := Lib.hid (setRow_heap _ (w.heap.size + 1) _ (bcells (fitB s.data.toList)) _ _ HG0)
  have HR := Lib.hid (show (((w.alloc (.cells gzeros 119)).alloc (.cells gzeros 119)).setRow (w.heap.size + 1) (bcells (fitB s.data.toList))).heap[w.heap.size]? = some (.cells gzeros 119) from by rw [setRow_other _ _ _ _ (by omega)]; exact HR0)
  have hb2 : Below w.heap.size w (((w.alloc (.cells gzeros 119)).alloc (.cells gzeros 119)).setRow (w.heap.size + 1) (bcells (fitB s.data.toList))) := below_setRow (below_new2 w _ _) (by omega) _
  clear hi hl HR0 hB HG0
  generalize hrow : fitB s.data.toList = row at *
  have HROW := Lib.hid hrow
  clear hrow
  go_enter Tryz.func93, Tryz.ntmps93
  go_wp2_with (first
    | (with_reducible refine wpList_load_row rfl 119 _ rfl (w.heap.size + 1) rfl 119 _ (0, 0) _ HG.out Tryz.underlying119 rfl HI.out ?_)
    | (with_reducible refine wpList_store_row rfl 119 _ _ rfl w.heap.size (bcells row) rfl rfl 119 _ HR.out HI.out HO.out H1.out ?_))
  exact bodyPost_ret (v := .agg (bcells row)) (results_cell_row (by rfl) _ _ w.heap.size 119 _ (0, 0) _ rfl (setRow_heap _ _ _ _ _ _ HR.out) Tryz.underlying119 rfl HI.out) rfl ⟨rfl, below_setRow hb2 (Nat.le_refl _) _⟩

theorem take_cells {W : World} {B : Nat} {s : List UInt8} {T : TypeId} {fr : Nat × Nat} (h : W.heap[B]? = some (.cells (bcells s) T fr)) (k : Nat) : ∀ j x, (s.take k)[j]? = some x → W.cell? ⟨B, 0 + j, none⟩ = some (.int .u8 (x.toNat : Int)) := fun j x hx => by
  rw [List.getElem?_take] at hx
  split at hx
  · rw [Nat.zero_add]; exact cells_of_bcells h j x hx
  · cases hx
theorem drop_cells {W : World} {B : Nat} {s : List UInt8} {T : TypeId} {fr : Nat × Nat} (h : W.heap[B]? = some (.cells (bcells s) T fr)) (k : Nat) : ∀ j x, (s.drop k)[j]? = some x → W.cell? ⟨B, k + j, none⟩ = some (.int .u8 (x.toNat : Int)) := fun j x hx => by
  rw [List.getElem?_drop] at hx
  exact cells_of_bcells h _ x hx
/-- 'b[:8]', 'b[k:]' of a block in memory. -/
theorem gsl_first (B : Nat) (w : World) : (Instr.sliceAt 119 (.pointer (some ⟨B, 0, none⟩)) none (some (.int .i64 8)) none).run Tryz.prog w = .ok (.slice (some ⟨B, 0, none⟩) 8 16) w := by
  have hn : Tryz.prog.arrayLen 119 = 16 := by kernel_rfl
  rw [run_sliceAt_array_h w 119 ⟨B, 0, none⟩ (by kernel_rfl) .i64 8 (by omega) (by rw [hn]; omega), arr_sizeOf (by kernel_rfl), hn]
  simp [slicedAt, Addr.add_lit]
theorem gsl_from (B k : Nat) (hk : k < 16) (w : World) : (Instr.sliceAt 119 (.pointer (some ⟨B, 0, none⟩)) (some (.int .i64 (k : Int))) none none).run Tryz.prog w = .ok (.slice (some ⟨B, k, none⟩) (16 - k) (16 - k)) w := by
  have hn : Tryz.prog.arrayLen 119 = 16 := by kernel_rfl
  rw [run_sliceAt_array_l w 119 ⟨B, 0, none⟩ (by kernel_rfl) .i64 (k : Int) (by omega) (by rw [hn]; omega), arr_sizeOf (by kernel_rfl), hn]
  simp only [Result.andThen_ok, slicedAt, Int.toNat_natCast, Nat.mul_one]
  rw [if_neg (by omega), Addr.add_lit, Nat.zero_add]

theorem pzn : (pzero = #[]) = False := by simp [pzero, pw2]
theorem pzs : pzero.size = 2 := rfl
set_option maxHeartbeats 1000000 in
theorem polyOf_any (s : List UInt8) (w : World) (hs : s.length = 16) :
    Calls Tryz.prog 110 #[.agg (bcells s)] w fun e w' => e = .returned (.agg (pw2 (wd s 0) (wd s 1))) ∧ Below w.heap.size w w' := by
  obtain ⟨hz, hi⟩ := zero_of_info infoP
  have HG0 := Lib.hid (blk_old (o := .cells pzero 142) (blk_new w (.cells (bcells s) 119)))
  have HR0 := Lib.hid (blk_new2 w (.cells (bcells s) 119) (.cells pzero 142))
  have hb0 := below_new2 w (.cells (bcells s) 119) (.cells pzero 142)
  have HN1 := Lib.hid (fun W (h : W.heap[w.heap.size]? = some (.cells (bcells s) 119)) => number_any (s.take 8) w.heap.size 0 8 16 W (by rw [List.length_take, hs]; rfl) (by omega) (take_cells h 8))
  have HN2 := Lib.hid (fun W (h : W.heap[w.heap.size]? = some (.cells (bcells s) 119)) => number_any (s.drop 8) w.heap.size 8 8 8 W (by rw [List.length_drop, hs]) (by omega) (drop_cells h 8))
  rw [nb_first] at HN1
  rw [nb_second] at HN2
  generalize wd s 0 = p at *
  generalize wd s 1 = q at *
  have HI := Lib.hid (sizeP p q)
  have HO := Lib.hid (pzero_size p q)
  have H1 := Lib.hid (pw2_one p q)
  have hbd := pw2_build p q
  have s1 := gsl_first w.heap.size
  have s2 := gsl_from w.heap.size 8 (by omega)
  clear hi
  go_enter Tryz.func110, Tryz.ntmps110
  go_wp2_with fail
  generalize hW0 : ((w.alloc _).alloc _) = W0 at *
  clear hW0
  generalize hBB : w.heap.size = B at *
  have HBB := Lib.hid hBB
  clear hBB
  refine wp_region_fresh 5 8 [.val (.slice (some ⟨B, 0, none⟩) 8 16) [(1, .pointer (some ⟨B, 0, none⟩))], .val (.int .u64 (p : Int)) [(3, .slice (some ⟨B, 0, none⟩) 8 16)], .val (.slice (some ⟨B, 8, none⟩) 8 8) [(1, .pointer (some ⟨B, 0, none⟩))],
    .val (.int .u64 (q : Int)) [(5, .slice (some ⟨B, 8, none⟩) 8 8)], .val (.agg (pw2 p q)) [(4, .int .u64 (p : Int)), (6, .int .u64 (q : Int))]]
    (by kernel_rfl) (by kernel_rfl) rfl ?_ ?_ ?_
  · simp only [List.take_succ_cons, List.take_zero, headObl, specObl, HeadSpec.val, HeadSpec.fresh, and_true]
    refine ⟨?_, ?_, ?_, ?_, ?_⟩
    · intro a w hb h
      have e := h (1, .pointer (some ⟨B, 0, none⟩)) (by simp)
      simp only [Array.getD_eq_getD_getElem?] at e
      simp [go_sem, e, sQuiet, s1]
    · intro a w hb h
      have e := h (3, .slice (some ⟨B, 0, none⟩) 8 16) (by simp)
      simp only [Array.getD_eq_getD_getElem?] at e
      simp [go_sem, e, sQuiet]
      exact (HN1.out w (blk_below hb (blk_lt HG0.out) HG0.out)).mono fun e w' ⟨h, hw⟩ => ⟨h, hw ▸ Below.refl _ _⟩
    · intro a w hb h
      have e := h (1, .pointer (some ⟨B, 0, none⟩)) (by simp)
      simp only [Array.getD_eq_getD_getElem?] at e
      first | (simp [go_sem, e, sQuiet, s2]; done) | (simp [go_sem, e, sQuiet]; exact s2 w)
    · intro a w hb h
      have e := h (5, .slice (some ⟨B, 8, none⟩) 8 8) (by simp)
      simp only [Array.getD_eq_getD_getElem?] at e
      simp [go_sem, e, sQuiet]
      exact (HN2.out w (blk_below hb (blk_lt HG0.out) HG0.out)).mono fun e w' ⟨h, hw⟩ => ⟨h, hw ▸ Below.refl _ _⟩
    · intro a w hb h
      have e0 := h (4, .int .u64 (p : Int)) (by simp)
      have e1 := h (6, .int .u64 (q : Int)) (by simp)
      simp only [Array.getD_eq_getD_getElem?] at e0 e1
      simp [go_sem, e0, e1, sQuiet, hz, hbd, pzn, pzs]
  · simp [headReads, headPut, specV, HeadSpec.val, HeadSpec.fresh, Act.put]
  · simp only [List.take_succ_cons, List.take_zero, List.drop_succ_cons, List.drop_zero, headEnd, HeadSpec.val, HeadSpec.fresh, Act.put, List.setIfInBounds_toArray, List.set_cons_succ, List.set_cons_zero]
    intro w1 hb1 hgs
    have HR1 := Lib.hid (blk_below hb1 (blk_lt HR0.out) HR0.out)
    have hb2 := hb0.trans (hb1.mono (HBB.out ▸ hb0.size))
    go_wp2_with (with_reducible refine wpList_store_row rfl 142 _ _ rfl (B + 1) (pw2 p q) rfl rfl 142 _ HR1.out HI.out HO.out H1.out ?_)
    exact bodyPost_ret (v := .agg (pw2 p q)) (results_cell_row (by rfl) _ _ (B + 1) 142 _ (0, 0) _ rfl (setRow_heap _ _ _ _ _ _ HR1.out) Tryz.underlying142 rfl HI.out) rfl ⟨rfl, by rw [HBB.out]; exact below_setRow hb2 (by omega) _⟩

set_option maxHeartbeats 1000000 in
theorem twoOf_any (x y : Nat) (w : World) :
    Calls Tryz.prog 90 #[.int .u64 (x : Int), .int .u64 (y : Int)] w fun e w' => e = .returned (.agg (bcells (twoB x y))) ∧ Below w.heap.size w w' := by
  obtain ⟨hz, hi⟩ := zero_of_info infoB
  have HR0 := Lib.hid (blk_old (o := .cells gzeros 119) (blk_new w (.cells gzeros 119)))
  have HG0 := Lib.hid (blk_new2 w (.cells gzeros 119) (.cells gzeros 119))
  have hb0 := below_new2 w (.cells gzeros 119) (.cells gzeros 119)
  have s1 := gsl_first (w.heap.size + 1)
  have s2 := gsl_from (w.heap.size + 1) 8 (by omega)
  clear hi
  go_enter Tryz.func90, Tryz.ntmps90
  go_wp2_with fail
  generalize ((w.alloc _).alloc _) = W0 at *
  generalize hBB : w.heap.size = B at *
  have HBB := Lib.hid hBB
  clear hBB
  have hl1 := blk_lt HG0.out
  refine (put_any zeroB (B + 1) 0 8 16 119 x W0 HG0.out List.length_replicate (by omega) (by omega)).mono ?_
  rintro e W1 ⟨rfl, hg1, hbut1⟩
  have HG1 := Lib.hid hg1
  have HR1 := Lib.hid ((hbut1.block B (by omega) (by omega)).trans HR0.out)
  have hb1 : Below B w W1 := hb0.trans (hbut1.below (by omega) (by omega))
  clear hg1 HG0 HR0 hb0 hbut1 hl1
  have hl1 := blk_lt HG1.out
  go_wp2_with fail
  refine (put_any (putB zeroB 0 8 x 8) (B + 1) 8 8 8 119 y W1 HG1.out (putB_length _ _ _ _ _) (by omega) (by omega)).mono ?_
  rintro e W2 ⟨rfl, hg2, hbut2⟩
  have HG2 := Lib.hid (show W2.heap[B + 1]? = some (.cells (bcells (twoB x y)) 119) from hg2)
  have HR2 := Lib.hid ((hbut2.block B (by omega) (by omega)).trans HR1.out)
  have hb2 : Below B w W2 := hb1.trans (hbut2.below (by omega) (by omega))
  clear hg2 HG1 HR1 hb1 hbut2 hl1
  have hl := twoB_length x y
  have HI := Lib.hid (sizeG _ hl)
  have HO := Lib.hid (gzeros_size _ hl)
  have H1 := Lib.hid (arr_one (twoB x y))
  go_wp2_with (first
    | (with_reducible refine wpList_load_row rfl 119 _ rfl (B + 1) rfl 119 _ (0, 0) _ HG2.out Tryz.underlying119 rfl HI.out ?_)
    | (with_reducible refine wpList_store_row rfl 119 _ _ rfl B (bcells (twoB x y)) rfl rfl 119 _ HR2.out HI.out HO.out H1.out ?_))
  exact bodyPost_ret (v := .agg (bcells (twoB x y))) (results_cell_row (by rfl) _ _ B 119 _ (0, 0) _ rfl (setRow_heap _ _ _ _ _ _ HR2.out) Tryz.underlying119 rfl HI.out) rfl ⟨rfl, by rw [HBB.out]; exact below_setRow hb2 (Nat.le_refl _) _⟩

set_option maxHeartbeats 1000000 in
theorem blockBack_any (s : List UInt8) (w : World) (hs : s.length = 16) :
    Calls Tryz.prog 113 #[.agg (pw2 (wd s 0) (wd s 1))] w fun e w' => e = .returned (.agg (bcells s)) ∧ Below w.heap.size w w' := by
  obtain ⟨hz, hi⟩ := zero_of_info infoB
  have HT := Lib.hid (twoOf_any (wd s 0) (wd s 1))
  rw [twoB_wd s hs] at HT
  generalize wd s 0 = x at *
  generalize wd s 1 = y at *
  have HR0 := Lib.hid (blk_new2 w (.cells (pw2 x y) 142) (.cells gzeros 119))
  have hb0 := below_new2 w (.cells (pw2 x y) 142) (.cells gzeros 119)
  obtain ⟨c0, c1⟩ := pw2_cells (blk_old (o := .cells gzeros 119) (blk_new w (.cells (pw2 x y) 142)))
  have HI := Lib.hid (sizeG s hs)
  have HO := Lib.hid (gzeros_size s hs)
  have H1 := Lib.hid (arr_one s)
  clear hi
  go_enter Tryz.func113, Tryz.ntmps113
  go_wp2_with fail
  refine (HT.out _).mono ?_
  rintro e W1 ⟨rfl, hb1⟩
  have HR1 := Lib.hid (blk_below hb1 (blk_lt HR0.out) HR0.out)
  have hb2 := hb0.trans (hb1.mono hb0.size)
  clear HT c0 c1 hb1 HR0 hb0
  go_wp2_with (with_reducible refine wpList_store_row rfl 119 _ _ rfl (w.heap.size + 1) (bcells s) rfl rfl 119 _ HR1.out HI.out HO.out H1.out ?_)
  exact bodyPost_ret (v := .agg (bcells s)) (results_cell_row (by rfl) _ _ (w.heap.size + 1) 119 _ (0, 0) _ rfl (setRow_heap _ _ _ _ _ _ HR1.out) Tryz.underlying119 rfl HI.out) rfl ⟨rfl, below_setRow hb2 (by omega) _⟩

set_option maxHeartbeats 1000000 in
theorem counterBlock_any (nonce : ByteArray) (n : Nat) (w : World) (hn : n < 4294967296) (hs : nonce.size = 12) :
    Calls Tryz.prog 88 #[.string nonce, .int .u32 (n : Int)] w fun e w' => e = .returned (.agg (bcells (ctG nonce.data.toList n))) ∧ Below w.heap.size w w' := by
  obtain ⟨hz, hi⟩ := zero_of_info infoB
  have hnl : nonce.data.toList.length = 12 := by rw [← Lib.size_eq]; exact hs
  have HR0 := Lib.hid (blk_new w (.cells gzeros 119))
  have hb0 := below_new w (.cells gzeros 119)
  have HC := Lib.hid (ctG_put nonce.data.toList n hnl)
  have hcl := ctG_length nonce.data.toList n hnl
  have e64 : (n : Int) % 18446744073709551616 = (n : Int) := by omega
  have HBO := Lib.hid (blockOf_any nonce)
  have hfl := fitB_length nonce.data.toList
  generalize fitB nonce.data.toList = fb at *
  generalize ctG nonce.data.toList n = ct at *
  have HIf := Lib.hid (sizeG fb hfl)
  have HOf := Lib.hid (gzeros_size fb hfl)
  have H1f := Lib.hid (arr_one fb)
  have HI := Lib.hid (sizeG ct hcl)
  have HO := Lib.hid (gzeros_size ct hcl)
  have H1 := Lib.hid (arr_one ct)
  clear hi hnl
  go_enter Tryz.func88, Tryz.ntmps88
  go_wp2_with fail
  generalize (w.alloc _) = W0 at *
  refine (HBO.out W0).mono ?_
  rintro e W1 ⟨rfl, hb1⟩
  have hl0 := blk_lt HR0.out
  have HR1 := Lib.hid (blk_below hb1 hl0 HR0.out)
  have hb2 := hb0.trans (hb1.mono hb0.size)
  have hl1 := blk_lt HR1.out
  have HG0 := Lib.hid (blk_new W1 (.cells gzeros 119))
  have HG1 := Lib.hid (setRow_heap _ W1.heap.size _ (bcells fb) _ _ HG0.out)
  have HR2 := Lib.hid (show ((W1.alloc (.cells gzeros 119)).setRow W1.heap.size (bcells fb)).heap[w.heap.size]? = some (.cells gzeros 119) from by rw [setRow_other _ _ _ _ (by omega)]; exact blk_old HR1.out)
  have hb3 : Below w.heap.size w ((W1.alloc (.cells gzeros 119)).setRow W1.heap.size (bcells fb)) := below_setRow (hb2.alloc (by omega) _) (by omega) _
  have s2 := gsl_from W1.heap.size 12 (by omega)
  have hlG := blk_lt HG1.out
  clear hb1 HR0 hb0 HBO HR1 hb2 hl0
  go_wp2_with (with_reducible refine wpList_store_row rfl 119 _ _ rfl W1.heap.size (bcells fb) rfl rfl 119 _ HG0.out HIf.out HOf.out H1f.out ?_)
  clear HG0
  generalize W1.heap.size = G at *
  generalize World.setRow (World.alloc W1 _) _ _ = W2 at *
  refine (put_any fb G 12 4 4 119 n W2 HG1.out hfl (by omega) (by omega)).mono ?_
  rintro e W3 ⟨rfl, hg3, hbut3⟩
  rw [HC.out] at hg3
  have HG3 := Lib.hid hg3
  have HR3 := Lib.hid ((hbut3.block w.heap.size (by omega) (by omega)).trans HR2.out)
  have hb4 : Below w.heap.size w W3 := hb3.trans (hbut3.below (by omega) (by omega))
  clear hg3 HG1 HR2 hb3 hbut3 HC s2
  go_wp2_with (first
    | (with_reducible refine wpList_load_row rfl 119 _ rfl G rfl 119 _ (0, 0) _ HG3.out Tryz.underlying119 rfl HI.out ?_)
    | (with_reducible refine wpList_store_row rfl 119 _ _ rfl w.heap.size (bcells ct) rfl rfl 119 _ HR3.out HI.out HO.out H1.out ?_))
  exact bodyPost_ret (v := .agg (bcells ct)) (results_cell_row (by rfl) _ _ w.heap.size 119 _ (0, 0) _ rfl (setRow_heap _ _ _ _ _ _ HR3.out) Tryz.underlying119 rfl HI.out) rfl ⟨rfl, below_setRow hb4 (by omega) _⟩
end

section
open Go.RowKit Go.Sort
set_option maxRecDepth 100000
set_option linter.unusedSimpArgs false
set_option linter.unusedVariables false

/-- The cells of a block's polynomial. -/
def pB (s : List UInt8) : Array Value := pw2 (wd s 0) (wd s 1)
theorem infoA2 : (Tryz.prog.info? 170).map (fun i => (i.zero, i.size)) = some (some (.agg pzero), 2) := by kernel_rfl
theorem index_two (x y : Nat) (h : Nat) (hh : h < 2) (w : World) : (Instr.index 170 (.agg (pw2 x y)) (.int .i64 (h : Int))).run Tryz.prog w = .ok (.int .u64 ((if h = 0 then x else y : Nat) : Int)) w := by
  refine arr_index 170 94 2 h (pw2 x y) _ Tryz.underlying170 (by kernel_rfl) (fun w => ?_) hh ?_ w
  · unfold isAgg
    rw [Sem.run_bind, run_underlying Tryz.underlying94 w]
    rfl
  · rcases (show h = 0 ∨ h = 1 by omega) with rfl | rfl <;> rfl
theorem wd_pick (b : List UInt8) (h : Nat) (hh : h < 2) : (if h = 0 then wd b 0 else wd b 1) = wd b h := by
  rcases (show h = 0 ∨ h = 1 by omega) with rfl | rfl <;> rfl
/-- A word that has moved on by so many. -/
def wMv (b : List UInt8) (h i : Nat) : Nat := (wd b h * 2 ^ i) % 18446744073709551616
theorem wMv_lt (b : List UInt8) (h i : Nat) : wMv b h i < 18446744073709551616 := Nat.mod_lt _ (by decide)
theorem wMv_zero (b : List UInt8) (h : Nat) : wMv b h 0 = wd b h := by rw [wMv, Nat.pow_zero, Nat.mul_one]; exact Nat.mod_eq_of_lt (wd_lt b h)
theorem wMv_succ (b : List UInt8) (h i : Nat) : IntKind.u64.wrap ((wMv b h i : Nat) * 2 : Int) = ((wMv b h (i + 1) : Nat) : Int) := by
  rw [IntKind.wrap_u64, wMv, wMv, Nat.pow_succ, ← Nat.mul_assoc]
  generalize wd b h * 2 ^ i = z
  omega
theorem wMv_top (b : List UInt8) (h i : Nat) (hi : i < 64) : ((wMv b h i : Nat) : Int) / 9223372036854775808 = (((if gbit b (64 * h + i) then 1 else 0 : Nat)) : Int) := by
  have := wd_top b h i hi
  rw [← this, wMv]
  omega
theorem bit_lt2 (c : Bool) : (if c then 1 else 0 : Nat) < 2 := by split <;> omega
theorem only_list (c : Bool) (s : List UInt8) (h : Nat) : (if (if c then 1 else 0 : Nat) = 1 then wd s h else 0) = wd (onG c s) h := by
  rw [wd_on]; cases c <;> simp

set_option maxHeartbeats 2000000 in
theorem times_any (a b : List UInt8) (w : World) (ha : a.length = 16) (hb : b.length = 16) :
    Calls Tryz.prog 112 #[.agg (pB a), .agg (pB b)] w fun e w' => e = .returned (.agg (pB (prodG a b))) ∧ Below w.heap.size w w' := by
  obtain ⟨hz, hi⟩ := zero_of_info infoP
  obtain ⟨hz2, hi2⟩ := zero_of_info infoA2
  have HP0 := Lib.hid (blk_old (o := .cells pzero 142) (blk_old (o := .cells pzero 142) (blk_old (o := .cells (pB b) 142) (blk_new w (.cells (pB a) 142)))))
  have HQ0 := blk_old (o := .cells pzero 142) (blk_old (o := .cells pzero 142) (blk_new2 w (.cells (pB a) 142) (.cells (pB b) 142)))
  have HR0 := Lib.hid (blk_old (o := .cells pzero 142) (blk_new3 w (.cells (pB a) 142) (.cells (pB b) 142) (.cells pzero 142)))
  have HO0 := Lib.hid (blk_new (((w.alloc (.cells (pB a) 142)).alloc (.cells (pB b) 142)).alloc (.cells pzero 142)) (.cells pzero 142))
  have hb0 := (below_new3 w (.cells (pB a) 142) (.cells (pB b) 142) (.cells pzero 142)).alloc (by simp; omega) (.cells pzero 142)
  obtain ⟨c0, c1⟩ := pw2_cells HQ0
  have hS : (((w.alloc (.cells (pB a) 142)).alloc (.cells (pB b) 142)).alloc (.cells pzero 142)).heap.size = w.heap.size + 1 + 1 + 1 := by simp
  rw [hS] at HO0
  have hbd := pw2_build (wd b 0) (wd b 1)
  have hix := fun h hh => index_two (wd b 0) (wd b 1) h hh
  have HIx := Lib.hid hix
  clear hi hi2 hix hS HQ0
  go_enter Tryz.func112, Tryz.ntmps112
  go_wp2_with fail
  clear hz hz2 c0 c1 hbd
  generalize ((((w.alloc _).alloc _).alloc _).alloc _) = W0 at *
  generalize hBB : w.heap.size = B at *
  have HBB := Lib.hid hBB
  clear hBB
  have HAl := Lib.hid ha
  clear ha hb
  go_loopw [7, 13, 16] (fun _ j _ wr => ∃ h : Nat, h ≤ 2 ∧ j = .int .i64 (h : Int) ∧ wr.heap[B]? = some (.cells (pB (vG a (64 * h))) 142) ∧ wr.heap[B + 1 + 1]? = some (.cells pzero 142) ∧ wr.heap[B + 1 + 1 + 1]? = some (.cells (pB (oG a b (64 * h))) 142) ∧ Below B w wr) (fun _ j _ _ => 2 - (intOf j).toNat)
  case atStart => exact ⟨0, by omega, rfl, HP0.out, HR0.out, by rw [show oG a b (64 * 0) = zeroB from rfl, show pB zeroB = pzero from by rw [pB, wd_zero, wd_zero]; rfl]; exact HO0.out, hb0⟩
  case round =>
    clear HP0 HR0 HO0 hb0
    obtain ⟨h, hh, rfl, hp, hr, ho, hb⟩ := hrel
    have HP := Lib.hid hp; have HR := Lib.hid hr; have HO := Lib.hid ho
    clear hp hr ho
    by_cases hlt : h < 2
    · have hd : decide ((h : Int) < 2) = true := by simp; omega
      have ix := HIx.out h hlt
      rw [wd_pick b h hlt, ← wMv_zero b h] at ix
      go_wp2_with fail
      have hb' : Below B w wr := hb
      go_loopw [7, 16] (fun wv iv wr => ∃ i : Nat, i ≤ 64 ∧ iv = .int .i64 (i : Int) ∧ wv = .int .u64 ((wMv b h i : Nat) : Int) ∧ wr.heap[B]? = some (.cells (pB (vG a (64 * h + i))) 142) ∧ wr.heap[B + 1 + 1]? = some (.cells pzero 142) ∧ wr.heap[B + 1 + 1 + 1]? = some (.cells (pB (oG a b (64 * h + i))) 142) ∧ Below B w wr) (fun _ iv _ => 64 - (intOf iv).toNat)
      case atStart => exact ⟨0, by omega, rfl, rfl, HP.out, HR.out, HO.out, hb'⟩
      case round =>
        clear HP HR HO hb' hb ix
        obtain ⟨i, hi, rfl, rfl, hp, hr, ho, hb⟩ := hrel
        have HP := Lib.hid hp; have HR := Lib.hid hr; have HO := Lib.hid ho
        clear hp hr ho
        by_cases hli : i < 64
        · have hd2 : decide ((i : Int) < 64) = true := by simp; omega
          have htop := wMv_top b h i hli
          have hsuc := wMv_succ b h i
          have hwl := wMv_lt b h i
          have HBit : Hid ((if gbit b (64 * h + i) then 1 else 0 : Nat) < 2) := Lib.hid (bit_lt2 _)
          have HOn := Lib.hid (fun W => gonly_any (wd (vG a (64 * h + i)) 0) (wd (vG a (64 * h + i)) 1) (if gbit b (64 * h + i) then 1 else 0) W (wd_lt _ _) (wd_lt _ _) HBit.out)
          rw [only_list, only_list] at HOn
          have HPl := Lib.hid (fun W => gplus_any (wd (oG a b (64 * h + i)) 0) (wd (oG a b (64 * h + i)) 1) (wd (onG (gbit b (64 * h + i)) (vG a (64 * h + i))) 0) (wd (onG (gbit b (64 * h + i)) (vG a (64 * h + i))) 1) W (wd_lt _ _) (wd_lt _ _) (wd_lt _ _) (wd_lt _ _))
          rw [← wd_xor _ _ 0 (by omega), ← wd_xor _ _ 1 (by omega), ← oG_succ] at HPl
          have HRa := Lib.hid (fun W => raised_any (wd (vG a (64 * h + i)) 0) (wd (vG a (64 * h + i)) 1) W (wd_lt _ _) (wd_lt _ _))
          rw [show rs0 (wd (vG a (64 * h + i)) 0) (wd (vG a (64 * h + i)) 1) = wd (vG a (64 * h + i + 1)) 0 from by rw [vG, wd_sh0]; rfl, show rs1 (wd (vG a (64 * h + i)) 0) (wd (vG a (64 * h + i)) 1) = wd (vG a (64 * h + i + 1)) 1 from by rw [vG, wd_sh1]; rfl] at HRa
          rw [show pw2 (wd (vG a (64 * h + i)) 0) (wd (vG a (64 * h + i)) 1) = pB (vG a (64 * h + i)) from rfl] at HOn HRa
          rw [show pw2 (wd (oG a b (64 * h + i)) 0) (wd (oG a b (64 * h + i)) 1) = pB (oG a b (64 * h + i)) from rfl] at HPl
          have HOS := Lib.hid (show ∃ c, c = pw2 (wd (oG a b (64 * h + i + 1)) 0) (wd (oG a b (64 * h + i + 1)) 1) ∧ c = pB (oG a b (64 * h + i + 1)) ∧ pzero.size = c.size ∧ (Tryz.prog.info? 142).map (·.size) = some c.size ∧ c.all (·.oneCell') = true from ⟨_, rfl, rfl, rfl, sizeP _ _, pw2_one _ _⟩)
          have HPS := Lib.hid (show ∃ c, c = pw2 (wd (vG a (64 * h + i + 1)) 0) (wd (vG a (64 * h + i + 1)) 1) ∧ c = pB (vG a (64 * h + i + 1)) ∧ pzero.size = c.size ∧ (Tryz.prog.info? 142).map (·.size) = some c.size ∧ c.all (·.oneCell') = true from ⟨_, rfl, rfl, rfl, sizeP _ _, pw2_one _ _⟩)
          have HQS := Lib.hid (show ∃ c, c = pw2 (wd (onG (gbit b (64 * h + i)) (vG a (64 * h + i))) 0) (wd (onG (gbit b (64 * h + i)) (vG a (64 * h + i))) 1) from ⟨_, rfl⟩)
          obtain ⟨po, hpo, hpo2, hpos, hpoi, hpo1⟩ := HOS.out
          obtain ⟨pp, hpp, hpp2, hpps, hppi, hpp1⟩ := HPS.out
          obtain ⟨pq, hpq⟩ := HQS.out
          rw [← hpo] at HPl; rw [← hpp] at HRa; rw [← hpq] at HPl HOn
          have HPO := Lib.hid hpo2; have HPP := Lib.hid hpp2
          have HIO := Lib.hid hpoi; have HIP := Lib.hid hppi
          have HSO := Lib.hid hpos; have HSP := Lib.hid hpps
          have H1O := Lib.hid hpo1; have H1P := Lib.hid hpp1
          have hpvi : (Tryz.prog.info? 142).map (·.size) = some (pB (vG a (64 * h + i))).size := sizeP _ _
          have hpoi : (Tryz.prog.info? 142).map (·.size) = some (pB (oG a b (64 * h + i))).size := sizeP _ _
          have hpvs : (pB (vG a (64 * h + i))).size = pp.size := by rw [← hpps]; rfl
          have hpos2 : (pB (oG a b (64 * h + i))).size = po.size := by rw [← hpos]; rfl
          have HVI := Lib.hid hpvi; have HOI := Lib.hid hpoi; have HVS := Lib.hid hpvs; have HOS2 := Lib.hid hpos2
          clear hpo hpo2 hpos hpoi hpo1 hpp hpp2 hpps hppi hpp1 hpq HOS HPS HQS hpvi hpvs hpos2
          generalize pB (vG a (64 * h + i)) = pv at *
          generalize pB (oG a b (64 * h + i)) = pu at *
          generalize (if gbit b (64 * h + i) then 1 else 0 : Nat) = bt at *
          generalize wMv b h i = wi at *
          go_wp2_with fail
          refine wp_region_fresh 6 31 [.val (.agg pu) [(5, .pointer (some ⟨B + 1 + 1 + 1, 0, none⟩))], .val (.agg pv) [(2, .pointer (some ⟨B, 0, none⟩))], .val (.int .u64 (wi : Int)) [(7, .int .u64 (wi : Int))],
            .val (.int .u64 (bt : Int)) [(20, .int .u64 (wi : Int))], .val (.agg pq) [(19, .agg pv), (21, .int .u64 (bt : Int))], .val (.agg po) [(18, .agg pu), (22, .agg pq)]]
            (by kernel_rfl) (by kernel_rfl) rfl ?_ ?_ ?_
          · simp only [List.take_succ_cons, List.take_zero, headObl, specObl, HeadSpec.val, HeadSpec.fresh, and_true]
            refine ⟨?_, ?_, ?_, ?_, ?_, ?_⟩
            · intro a w hb h
              have e0 := h (5, .pointer (some ⟨B + 1 + 1 + 1, 0, none⟩)) (by simp)
              exact sQuiet_load_row 142 (.tmp 5) rfl (B + 1 + 1 + 1) e0 142 _ (0, 0) _ (blk_below hb (blk_lt HO.out) HO.out) Tryz.underlying142 rfl HOI.out
            · intro a w hb h
              have e0 := h (2, .pointer (some ⟨B, 0, none⟩)) (by simp)
              exact sQuiet_load_row 142 (.tmp 2) rfl B e0 142 _ (0, 0) _ (blk_below hb (blk_lt HP.out) HP.out) Tryz.underlying142 rfl HVI.out
            · intro a w hb h
              have e := h (7, .int .u64 (wi : Int)) (by simp)
              simp only [Array.getD_eq_getD_getElem?] at e
              simp [go_sem, e, sQuiet]
            · intro a w hb h
              have e := h (20, .int .u64 (wi : Int)) (by simp)
              simp only [Array.getD_eq_getD_getElem?] at e
              simp [go_sem, e, sQuiet, htop]
            · intro a w hb h
              have e0 := h (19, .agg pv) (by simp)
              have e1 := h (21, .int .u64 (bt : Int)) (by simp)
              simp only [Array.getD_eq_getD_getElem?] at e0 e1
              simp [go_sem, e0, e1, sQuiet]
              exact HOn.out w
            · intro a w hb h
              have e0 := h (18, .agg pu) (by simp)
              have e1 := h (22, .agg pq) (by simp)
              simp only [Array.getD_eq_getD_getElem?] at e0 e1
              simp [go_sem, e0, e1, sQuiet]
              exact HPl.out w
          · simp [headReads, headPut, specV, HeadSpec.val, HeadSpec.fresh, Act.put]
          · simp only [List.take_succ_cons, List.take_zero, List.drop_succ_cons, List.drop_zero, headEnd, HeadSpec.val, HeadSpec.fresh, Act.put, List.setIfInBounds_toArray, List.set_cons_succ, List.set_cons_zero]
            intro w1 hb1 hgs
            have hlO := blk_lt HO.out
            have HO1 := Lib.hid (blk_below hb1 hlO HO.out)
            have HP1 := Lib.hid (blk_below hb1 (by omega) HP.out)
            have HR1 := Lib.hid (blk_below hb1 (by omega) HR.out)
            have hb2 : Below B w w1 := hb.trans (hb1.mono (by omega))
            clear hgs hb1 HO HP HR hb HOn HPl
            have HO2 := Lib.hid (setRow_heap w1 (B + 1 + 1 + 1) _ po _ _ HO1.out)
            have HP2 := Lib.hid (show (w1.setRow (B + 1 + 1 + 1) po).heap[B]? = some (.cells pv 142) from by rw [setRow_other _ _ _ _ (by omega)]; exact HP1.out)
            have HR2 := Lib.hid (show (w1.setRow (B + 1 + 1 + 1) po).heap[B + 1 + 1]? = some (.cells pzero 142) from by rw [setRow_other _ _ _ _ (by omega)]; exact HR1.out)
            have hb3 : Below B w (w1.setRow (B + 1 + 1 + 1) po) := below_setRow hb2 (by omega) _
            go_wp2_with (first
              | (with_reducible refine wpList_store_row rfl 142 _ _ rfl (B + 1 + 1 + 1) po rfl rfl 142 _ HO1.out HIO.out HOS2.out H1O.out ?_)
              | (with_reducible refine wpList_load_row rfl 142 _ rfl B rfl 142 _ (0, 0) _ HP2.out Tryz.underlying142 rfl HVI.out ?_))
            generalize World.setRow w1 _ _ = w2 at *
            refine (HRa.out w2).mono ?_
            rintro e w3 ⟨rfl, hb4⟩
            have hl3 := blk_lt HO2.out
            have HO3 := Lib.hid (blk_below hb4 hl3 HO2.out)
            have HP3 := Lib.hid (blk_below hb4 (by omega) HP2.out)
            have HR3 := Lib.hid (blk_below hb4 (by omega) HR2.out)
            have hb5 : Below B w w3 := hb3.trans (hb4.mono (by omega))
            clear HRa hb4 hb3 HO2 HP2 HR2 HO1 HP1 HR1 hb2 hl3 hlO
            have HO4 := Lib.hid (show (w3.setRow B pp).heap[B + 1 + 1 + 1]? = some (.cells po 142) from by rw [setRow_other _ _ _ _ (by omega)]; exact HO3.out)
            have HP4 := Lib.hid (setRow_heap w3 B _ pp _ _ HP3.out)
            have HR4 := Lib.hid (show (w3.setRow B pp).heap[B + 1 + 1]? = some (.cells pzero 142) from by rw [setRow_other _ _ _ _ (by omega)]; exact HR3.out)
            have hb6 : Below B w (w3.setRow B pp) := below_setRow hb5 (Nat.le_refl _) _
            go_wp2_with (with_reducible refine wpList_store_row rfl 142 _ _ rfl B pp rfl rfl 142 _ HP3.out HIP.out HVS.out H1P.out ?_)
            go_roundw
            case rel => exact ⟨i + 1, by omega, by go_num, by rw [← hsuc], by rw [← Nat.add_assoc, ← HPP.out]; exact HP4.out, HR4.out, by rw [← Nat.add_assoc, ← HPO.out]; exact HO4.out, hb6⟩
            case measure => simp [intOf]; omega
        · have hd2 : decide ((i : Int) < 64) = false := by simp; omega
          obtain rfl : i = 64 := by omega
          go_wp2_with fail
          go_roundw
          case rel => exact ⟨h + 1, by omega, by go_num, by rw [show 64 * (h + 1) = 64 * h + 64 by omega]; exact HP.out, HR.out, by rw [show 64 * (h + 1) = 64 * h + 64 by omega]; exact HO.out, hb⟩
          case measure => simp [intOf]; omega
    · have hd : decide ((h : Int) < 2) = false := by simp; omega
      obtain rfl : h = 2 := by omega
      have HO2 : Hid (wr.heap[B + 1 + 1 + 1]? = some (.cells (pB (prodG a b)) 142)) := HO
      have HI : Hid ((Tryz.prog.info? 142).map (·.size) = some (pB (prodG a b)).size) := Lib.hid (sizeP _ _)
      have HS : Hid (pzero.size = (pB (prodG a b)).size) := Lib.hid rfl
      have H1 : Hid ((pB (prodG a b)).all (·.oneCell') = true) := Lib.hid (pw2_one _ _)
      clear HO
      generalize hrow : pB (prodG a b) = row at *
      have HROW := Lib.hid hrow
      clear hrow
      go_wp2_with (first
        | (with_reducible refine wpList_load_row rfl 142 _ rfl (B + 1 + 1 + 1) rfl 142 _ (0, 0) _ HO2.out Tryz.underlying142 rfl HI.out ?_)
        | (with_reducible refine wpList_store_row rfl 142 _ _ rfl (B + 1 + 1) row rfl rfl 142 _ HR.out HI.out HS.out H1.out ?_))
      exact bodyPost_ret (v := .agg row) (results_cell_row (by rfl) _ _ (B + 1 + 1) 142 _ (0, 0) _ rfl (setRow_heap _ _ _ _ _ _ HR.out) Tryz.underlying142 rfl HI.out) rfl ⟨by first | (with_reducible rfl) | rw [HROW.out], by rw [HBB.out]; exact below_setRow hb (by omega) _⟩
end

section
open Go.RowKit Go.Sort
set_option maxRecDepth 100000
set_option linter.unusedSimpArgs false
set_option linter.unusedVariables false

theorem sizePB (s : List UInt8) : (Tryz.prog.info? 142).map (·.size) = some (pB s).size := sizeP _ _
theorem pB_size (s t : List UInt8) : (pB s).size = (pB t).size := rfl
theorem pz_size (s : List UInt8) : pzero.size = (pB s).size := rfl
theorem pB_one (s : List UInt8) : (pB s).all (·.oneCell') = true := pw2_one _ _
theorem pB_zero : pB zeroB = pzero := by rw [pB, wd_zero, wd_zero]; rfl

theorem textsAt_keep {W W' : World} {ao : Option Addr} {n : Nat} {f : Nat → ByteArray} (h : TextsAt W ao n f) {B : Nat} (hb : Below B W W') (hg : ∀ g off, ao = some ⟨g, off, none⟩ → g < B) : TextsAt W' ao n f := fun j hj => by
  obtain ⟨g, off, ha, hc⟩ := h j hj
  exact ⟨g, off, ha, (hb.cell (p := ⟨g, off + j, none⟩) (hg g off ha)).trans hc⟩
theorem textsAt_lt {W : World} {ao : Option Addr} {n : Nat} {f : Nat → ByteArray} (h : TextsAt W ao n f) (hn : 0 < n) : ∀ g off, ao = some ⟨g, off, none⟩ → g < W.heap.size := fun g off ha => by
  obtain ⟨g', off', ha', hc⟩ := h 0 hn
  rw [ha] at ha'
  injection ha' with e
  injection e with e1
  subst e1
  exact block_lt_of_cell hc
theorem textsAt_from {W W' : World} {ao : Option Addr} {n : Nat} {f : Nat → ByteArray} (h : TextsAt W ao n f) (hb : Below W.heap.size W W') : TextsAt W' ao n f := h.step hb
theorem dgA_succ (key : List UInt8) (f : Nat → ByteArray) (m : Nat) : dgS key (dgA key f m) (f m).data.toList (((f m).size + 15) / 16) = dgA key f (m + 1) := by
  rw [dgA, dgT, ← Lib.size_eq]
theorem dgS_succ (key y text : List UInt8) (k : Nat) : prodG (plS (dgS key y text k) (fitB (text.drop (16 * k)))) key = dgS key y text (k + 1) := rfl
theorem dgS_len (key y text : List UInt8) (k : Nat) (h : y.length = 16) : (dgS key y text k).length = 16 := dgS_length key y text h k

set_option maxHeartbeats 2000000 in
theorem digest_any (key : List UInt8) (ao : Option Addr) (n cap : Nat) (f : Nat → ByteArray) (w : World) (hk : key.length = 16) (hn : n ≤ 1500) (hc : TextsAt w ao n f) (hs : ∀ i, i < n → (f i).size ≤ 1099511627776) :
    Calls Tryz.prog 92 #[.agg (bcells key), .slice ao n cap] w fun e w' => e = .returned (.agg (bcells (dgA key f n))) ∧ Below w.heap.size w w' := by
  obtain ⟨hz, hi⟩ := zero_of_info infoP
  obtain ⟨hzb, hib⟩ := zero_of_info infoB
  have HKb := Lib.hid (blk_old (o := .cells gzeros 119) (blk_new w (.cells (bcells key) 119)))
  have HR0 := Lib.hid (blk_new2 w (.cells (bcells key) 119) (.cells gzeros 119))
  have hb0 := below_new2 w (.cells (bcells key) 119) (.cells gzeros 119)
  have HC0 := Lib.hid hc
  have HIK := Lib.hid (sizeG key hk)
  have HPo := Lib.hid (fun W => polyOf_any key W hk)
  have HKL := Lib.hid hk
  have HS := Lib.hid hs
  have HOk := Lib.hid (pz_size key)
  have HIz := Lib.hid (show (Tryz.prog.info? 142).map (·.size) = some pzero.size from sizeP 0 0)
  have H1z := Lib.hid (show pzero.all (·.oneCell') = true from pw2_one 0 0)
  have HPZ := Lib.hid pB_zero
  clear hi hib hc hs hk
  generalize pzero = z0 at *
  go_enter Tryz.func92, Tryz.ntmps92
  go_wp2_with (with_reducible refine wpList_load_row rfl 119 _ rfl w.heap.size rfl 119 _ (0, 0) _ HKb.out Tryz.underlying119 rfl HIK.out ?_)
  clear hzb
  generalize ((w.alloc _).alloc _) = W0 at *
  refine (HPo.out W0).mono ?_
  rintro e W1 ⟨rfl, hb1⟩
  have hl0 := blk_lt HR0.out
  have HR1 := Lib.hid (blk_below hb1 hl0 HR0.out)
  have hb2 : Below w.heap.size w W1 := hb0.trans (hb1.mono (by omega))
  have hl1 := blk_lt HR1.out
  rw [show pw2 (wd key 0) (wd key 1) = pB key from rfl]
  have HK0 := blk_old (o := .cells z0 142) (blk_new W1 (.cells z0 142))
  have HY0 := blk_new2 W1 (.cells z0 142) (.cells z0 142)
  have hbn := below_new2 W1 (.cells z0 142) (.cells z0 142)
  have hb3 : Below w.heap.size w _ := hb2.trans (hbn.mono (by omega))
  have HKx := Lib.hid HK0
  have HIk := Lib.hid (sizePB key)
  have H1k := Lib.hid (pB_one key)

  have HY1 := Lib.hid (show (((W1.alloc (.cells z0 142)).alloc (.cells z0 142)).setRow W1.heap.size (pB key)).heap[W1.heap.size + 1]? = some (.cells z0 142) from by rw [setRow_other _ _ _ _ (by omega)]; exact HY0)
  have HKy := Lib.hid (show ((((W1.alloc (.cells z0 142)).alloc (.cells z0 142)).setRow W1.heap.size (pB key)).setRow (W1.heap.size + 1) z0).heap[W1.heap.size]? = some (.cells (pB key) 142) from by rw [setRow_other _ _ _ _ (by omega)]; exact setRow_heap _ _ _ _ _ _ HK0)
  have HYy := Lib.hid (setRow_heap _ (W1.heap.size + 1) _ z0 _ _ HY1.out)
  have hbs : Below W1.heap.size W1 ((((W1.alloc (.cells z0 142)).alloc (.cells z0 142)).setRow W1.heap.size (pB key)).setRow (W1.heap.size + 1) z0) := below_setRow (below_setRow hbn (Nat.le_refl _) _) (by omega) _
  have HR3 := Lib.hid (blk_below hbs hl1 HR1.out)
  have hb4 := hb2.trans (hbs.mono (by omega))
  clear hb1 HR0 hb0 HPo HR1 hb2 hl0 hbn HKb HK0 HY0 hb3 hbs
  go_wp2_with (first
    | (with_reducible refine wpList_store_row rfl 142 _ _ rfl W1.heap.size (pB key) rfl rfl 142 _ HKx.out HIk.out HOk.out H1k.out ?_)
    | (with_reducible refine wpList_store_row rfl 142 _ _ rfl (W1.heap.size + 1) z0 rfl rfl 142 _ HY1.out HIz.out rfl H1z.out ?_))
  clear HKx HY1
  generalize W1.heap.size = K at *
  generalize World.setRow (World.setRow _ _ _) _ _ = W2 at *
  rw [← HPZ.out] at HYy
  clear HPZ HIz H1z hz
  go_loopw [8, 9, 15] (fun _ _ iv wr => ∃ m : Nat, m ≤ n ∧ iv = .int .i64 (m : Int) ∧ wr.heap[K]? = some (.cells (pB key) 142) ∧ wr.heap[K + 1]? = some (.cells (pB (dgA key f m)) 142) ∧ wr.heap[w.heap.size + 1]? = some (.cells gzeros 119) ∧ Below w.heap.size w wr) (fun _ _ iv _ => n - (intOf iv).toNat)
  case atStart => exact ⟨0, by omega, rfl, HKy.out, HYy.out, HR3.out, hb4⟩
  case round =>
    clear HKy HYy HR3 hb4
    obtain ⟨m, hm, rfl, hkk, hyy, hrr, hb⟩ := hrel
    have HK := Lib.hid hkk; have HY := Lib.hid hyy; have HR := Lib.hid hrr
    clear hkk hyy hrr
    by_cases hlt : m < n
    · have hd : decide ((m : Int) < (n : Int)) = true := by simp; omega
      obtain ⟨g, off, rfl, hcell⟩ := (HC0.out.step hb) m hlt
      have hfs := HS.out m hlt
      have HNx := Lib.hid (dgA_succ key f m)
      have HYL := Lib.hid (dgA_length key f m)
      go_wp2_with fail
      generalize f m = t at *
      generalize dgA key f m = y0 at *
      have hb' : Below w.heap.size w wr := hb
      go_loopw [9] (fun av wr => ∃ k c : Nat, k ≤ (t.size + 15) / 16 ∧ Hid (c = 16 * k) ∧ av = .int .i64 (c : Int) ∧ wr.heap[K]? = some (.cells (pB key) 142) ∧ wr.heap[K + 1]? = some (.cells (pB (dgS key y0 t.data.toList k)) 142) ∧ wr.heap[w.heap.size + 1]? = some (.cells gzeros 119) ∧ Below w.heap.size w wr) (fun av _ => t.size + 16 - (intOf av).toNat)
      case atStart => exact ⟨0, 0, by omega, Lib.hid rfl, rfl, HK.out, HY.out, HR.out, hb'⟩
      case round =>
        clear HK HY HR hb' hb hcell
        obtain ⟨k, c, hk, HCk, rfl, hkk, hyy, hrr, hb⟩ := hrel
        have HK := Lib.hid hkk; have HY := Lib.hid hyy; have HR := Lib.hid hrr
        clear hkk hyy hrr
        by_cases hlc : c < t.size
        · have hd2 : decide ((c : Int) < (t.size : Int)) = true := by simp; omega
          have hck := HCk.out
          have hkx : k + 1 ≤ (t.size + 15) / 16 := by omega
          have hex : (t.extract c t.size).data.toList = t.data.toList.drop (16 * k) := by rw [Lib.extract_data, ← hck, List.take_of_length_le (by rw [List.length_drop, ← Lib.size_eq]; exact Nat.le_refl _)]
          have HBo := Lib.hid (fun W => blockOf_any (t.extract c t.size) W)
          rw [hex] at HBo
          have HPf := Lib.hid (fun W => polyOf_any (fitB (t.data.toList.drop (16 * k))) W (fitB_length _))
          have HPl := Lib.hid (fun W => gplus_any (wd (dgS key y0 t.data.toList k) 0) (wd (dgS key y0 t.data.toList k) 1) (wd (fitB (t.data.toList.drop (16 * k))) 0) (wd (fitB (t.data.toList.drop (16 * k))) 1) W (wd_lt _ _) (wd_lt _ _) (wd_lt _ _) (wd_lt _ _))
          rw [← wd_xor _ _ 0 (by omega), ← wd_xor _ _ 1 (by omega)] at HPl
          have HTm := Lib.hid (fun W => times_any (plS (dgS key y0 t.data.toList k) (fitB (t.data.toList.drop (16 * k)))) key W (plS_length _ _) HKL.out)
          rw [dgS_succ] at HTm
          rw [show pw2 (wd (fitB (t.data.toList.drop (16 * k))) 0) (wd (fitB (t.data.toList.drop (16 * k))) 1) = pB (fitB (t.data.toList.drop (16 * k))) from rfl] at HPf HPl
          rw [show pw2 (wd (dgS key y0 t.data.toList k) 0) (wd (dgS key y0 t.data.toList k) 1) = pB (dgS key y0 t.data.toList k) from rfl] at HPl
          rw [show pw2 (wd (plS (dgS key y0 t.data.toList k) (fitB (t.data.toList.drop (16 * k)))) 0) (wd (plS (dgS key y0 t.data.toList k) (fitB (t.data.toList.drop (16 * k)))) 1) = pB (plS (dgS key y0 t.data.toList k) (fitB (t.data.toList.drop (16 * k)))) from rfl] at HPl
          have HIy := Lib.hid (sizePB (dgS key y0 t.data.toList k))
          have HIn := Lib.hid (sizePB (dgS key y0 t.data.toList (k + 1)))
          have HOn := Lib.hid (pB_size (dgS key y0 t.data.toList k) (dgS key y0 t.data.toList (k + 1)))
          have H1n := Lib.hid (pB_one (dgS key y0 t.data.toList (k + 1)))
          generalize fitB (t.data.toList.drop (16 * k)) = fb at *
          generalize hpn : pB (dgS key y0 t.data.toList (k + 1)) = pn at *
          have HPN := Lib.hid hpn
          clear hpn
          generalize pB (plS (dgS key y0 t.data.toList k) fb) = ps at *
          generalize pB (dgS key y0 t.data.toList k) = py at *
          generalize pB fb = pf at *
          generalize pB key = pk at *
          clear hex hck
          go_wp2_with fail
          refine wp_region_fresh 9 37 [.val (.agg py) [(6, .pointer (some ⟨K + 1, 0, none⟩))], .val (.string t) [(8, .string t)], .val (.int .i64 (c : Int)) [(9, .int .i64 (c : Int))], .val (.string (t.extract c t.size)) [(26, .string t), (27, .int .i64 (c : Int))],
            .val (.agg (bcells fb)) [(28, .string (t.extract c t.size))], .val (.agg pf) [(29, .agg (bcells fb))], .val (.agg ps) [(25, .agg py), (30, .agg pf)], .val (.agg pk) [(5, .pointer (some ⟨K, 0, none⟩))], .val (.agg pn) [(31, .agg ps), (32, .agg pk)]]
            (by kernel_rfl) (by kernel_rfl) rfl ?_ ?_ ?_
          · simp only [List.take_succ_cons, List.take_zero, headObl, specObl, HeadSpec.val, HeadSpec.fresh, and_true]
            refine ⟨?_, ?_, ?_, ?_, ?_, ?_, ?_, ?_, ?_⟩
            · intro a w hb h
              have e0 := h (6, .pointer (some ⟨K + 1, 0, none⟩)) (by simp)
              exact sQuiet_load_row 142 (.tmp 6) rfl (K + 1) e0 142 _ (0, 0) _ (blk_below hb (blk_lt HY.out) HY.out) Tryz.underlying142 rfl HIy.out
            · intro a w hb h
              have e := h (8, .string t) (by simp)
              simp only [Array.getD_eq_getD_getElem?] at e
              simp [go_sem, e, sQuiet]
            · intro a w hb h
              have e := h (9, .int .i64 (c : Int)) (by simp)
              simp only [Array.getD_eq_getD_getElem?] at e
              simp [go_sem, e, sQuiet]
            · intro a w hb h
              have e0 := h (26, .string t) (by simp)
              have e1 := h (27, .int .i64 (c : Int)) (by simp)
              simp only [Array.getD_eq_getD_getElem?] at e0 e1
              have hcs : (c : Int) ≤ (t.size : Int) := by omega
              simp [go_sem, e0, e1, sQuiet, hcs]
            · intro a w hb h
              have e := h (28, .string (t.extract c t.size)) (by simp)
              simp only [Array.getD_eq_getD_getElem?] at e
              simp [go_sem, e, sQuiet]
              exact HBo.out w
            · intro a w hb h
              have e := h (29, .agg (bcells fb)) (by simp)
              simp only [Array.getD_eq_getD_getElem?] at e
              simp [go_sem, e, sQuiet]
              exact HPf.out w
            · intro a w hb h
              have e0 := h (25, .agg py) (by simp)
              have e1 := h (30, .agg pf) (by simp)
              simp only [Array.getD_eq_getD_getElem?] at e0 e1
              simp [go_sem, e0, e1, sQuiet]
              exact HPl.out w
            · intro a w hb h
              have e0 := h (5, .pointer (some ⟨K, 0, none⟩)) (by simp)
              exact sQuiet_load_row 142 (.tmp 5) rfl K e0 142 _ (0, 0) _ (blk_below hb (blk_lt HK.out) HK.out) Tryz.underlying142 rfl HIk.out
            · intro a w hb h
              have e0 := h (31, .agg ps) (by simp)
              have e1 := h (32, .agg pk) (by simp)
              simp only [Array.getD_eq_getD_getElem?] at e0 e1
              simp [go_sem, e0, e1, sQuiet]
              exact HTm.out w
          · simp [headReads, headPut, specV, HeadSpec.val, HeadSpec.fresh, Act.put]
          · simp only [List.take_succ_cons, List.take_zero, List.drop_succ_cons, List.drop_zero, headEnd, HeadSpec.val, HeadSpec.fresh, Act.put, List.setIfInBounds_toArray, List.set_cons_succ, List.set_cons_zero]
            intro w1 hb1 hgs
            have hlY := blk_lt HY.out; have hlR := blk_lt HR.out
            have HY1 := Lib.hid (blk_below hb1 hlY HY.out)
            have HK1 := Lib.hid (blk_below hb1 (by omega) HK.out)
            have HR1 := Lib.hid (blk_below hb1 hlR HR.out)
            have hb2 : Below w.heap.size w w1 := hb.trans (hb1.mono hb.size)
            have HY2 := Lib.hid (setRow_heap w1 (K + 1) _ pn _ _ HY1.out)
            have HK2 := Lib.hid (show (w1.setRow (K + 1) pn).heap[K]? = some (.cells pk 142) from by rw [setRow_other _ _ _ _ (by omega)]; exact HK1.out)
            have HR2 := Lib.hid (show (w1.setRow (K + 1) pn).heap[w.heap.size + 1]? = some (.cells gzeros 119) from by rw [setRow_other _ _ _ _ (by omega)]; exact HR1.out)
            have hb3 : Below w.heap.size w (w1.setRow (K + 1) pn) := below_setRow hb2 (by omega) _
            clear hgs hb1 HY HK HR hb HBo HPf HPl HTm hb2 HK1 HR1
            go_wp2_with (with_reducible refine wpList_store_row rfl 142 _ _ rfl (K + 1) pn rfl rfl 142 _ HY1.out HIn.out HOn.out H1n.out ?_)
            go_roundw
            case rel => exact ⟨k + 1, c + 16, hkx, Lib.hid (by rw [HCk.out]; omega), by go_num, HK2.out, by rw [HPN.out]; exact HY2.out, HR2.out, hb3⟩
            case measure => simp [intOf]; omega
        · have hd2 : decide ((c : Int) < (t.size : Int)) = false := by simp; omega
          have hkk : k = (t.size + 15) / 16 := by have := HCk.out; omega
          have HY2 := Lib.hid (show wr.heap[K + 1]? = some (.cells (pB (dgA key f (m + 1))) 142) from by rw [← HNx.out, ← hkk]; exact HY.out)
          clear HY hkk
          go_wp2_with fail
          go_roundw
          case rel => exact ⟨m + 1, by omega, by go_num, HK.out, HY2.out, HR.out, hb⟩
          case measure => simp [intOf]; omega
    · have hd : decide ((m : Int) < (n : Int)) = false := by simp; omega
      obtain rfl : m = n := by omega
      have hdl := dgA_length key f m
      have HBk := Lib.hid (fun W => blockBack_any (dgA key f m) W hdl)
      rw [show pw2 (wd (dgA key f m) 0) (wd (dgA key f m) 1) = pB (dgA key f m) from rfl] at HBk
      have HIy := Lib.hid (sizePB (dgA key f m))
      have HI := Lib.hid (sizeG _ hdl)
      have HO := Lib.hid (gzeros_size _ hdl)
      have H1 := Lib.hid (arr_one (dgA key f m))
      generalize pB (dgA key f m) = py at *
      generalize hrow : dgA key f m = row at *
      have HROW := Lib.hid hrow
      clear hrow hdl
      go_wp2_with (with_reducible refine wpList_load_row rfl 142 _ rfl (K + 1) rfl 142 _ (0, 0) _ HY.out Tryz.underlying142 rfl HIy.out ?_)
      refine (HBk.out wr).mono ?_
      rintro e W5 ⟨rfl, hb5⟩
      have HR5 := Lib.hid (blk_below hb5 (blk_lt HR.out) HR.out)
      have hb6 := hb.trans (hb5.mono hb.size)
      clear HBk hb5 HR
      go_wp2_with (with_reducible refine wpList_store_row rfl 119 _ _ rfl (w.heap.size + 1) (bcells row) rfl rfl 119 _ HR5.out HI.out HO.out H1.out ?_)
      exact bodyPost_ret (v := .agg (bcells row)) (results_cell_row (by rfl) _ _ (w.heap.size + 1) 119 _ (0, 0) _ rfl (setRow_heap _ _ _ _ _ _ HR5.out) Tryz.underlying119 rfl HI.out) rfl ⟨by first | (with_reducible rfl) | rw [HROW.out], below_setRow hb6 (by omega) _⟩
end

section
open Go.RowKit Go.Sort
set_option maxRecDepth 100000
set_option linter.unusedSimpArgs false
set_option linter.unusedVariables false



/-- One of the blocks that lie one behind the other. -/
def blkS (l : List UInt8) (j : Nat) : ByteArray := ⟨(subL l (16 * j) 16).toArray⟩
theorem blkS_size (l : List UInt8) (n j : Nat) (h : l.length = 16 * n) (hj : j < n) : (blkS l j).size = 16 := subL_length l (16 * j) 16 (by omega)
/-- So many texts of them, the others empty. -/
def txP (f : Nat → ByteArray) (n m : Nat) : List ByteArray := (List.range n).map fun i => if i < m then f i else ⟨#[]⟩
theorem txP_length (f : Nat → ByteArray) (n m : Nat) : (txP f n m).length = n := by simp [txP]
theorem txP_zero (f : Nat → ByteArray) (n : Nat) : txP f n 0 = List.replicate n ⟨#[]⟩ := by
  apply List.ext_getElem?
  intro i
  by_cases h : i < n
  · simp [txP, h]
  · simp [txP, h]
theorem txP_get (f : Nat → ByteArray) (n i : Nat) (h : i < n) : (txP f n n)[i]? = some (f i) := by simp [txP, h]
theorem txP_succ (f : Nat → ByteArray) (n m : Nat) (h : m < n) : (txP f n m).set m (f m) = txP f n (m + 1) := by
  apply List.ext_getElem?
  intro i
  rw [List.getElem?_set]
  by_cases e : m = i
  · subst e
    rw [if_pos rfl, if_pos (by rw [txP_length]; exact h)]
    simp [txP, h]
  · rw [if_neg e]
    by_cases hi : i < n
    · by_cases hm : i < m
      · simp [txP, hi, hm, show i < m + 1 by omega]
      · simp [txP, hi, hm, show ¬ i < m + 1 by omega]
    · simp [txP, hi]
theorem texts_txP {W : World} {G n : Nat} {f : Nat → ByteArray} {T : TypeId} {fr : Nat × Nat} (h : W.heap[G]? = some (.cells (scells (txP f n n)) T fr)) : TextsAt W (some ⟨G, 0, none⟩) n f := fun j hj => ⟨G, 0, rfl, by
  rw [cell_of_row _ _ _ _ _ _ h, Nat.zero_add]; exact scells_get _ _ _ (txP_get f n j hj)⟩
theorem ansP_get (key : ByteArray) (f : Nat → ByteArray) (n i : Nat) (h : i < n) : (ansP key f n n)[i]? = some (encS key (f i)) := by simp [ansP, h]

set_option maxHeartbeats 2000000 in
theorem encrypteds_any (key : ByteArray) (l : List UInt8) (g n cap : Nat) (T : TypeId) (fr : Nat × Nat) (w : World) (hk : key.size = 16) (hn : n ≤ 1500) (hl : l.length = 16 * n) (hg : w.heap[g]? = some (.cells (bcells l) T fr)) (hT : TabQ w) :
    Calls Tryz.prog 89 #[.string key, .slice (some ⟨g, 0, none⟩) n cap] w fun e w' => (∃ G, e = .returned (.slice (some ⟨G, 0, none⟩) n n) ∧ TextsAt w' (some ⟨G, 0, none⟩) n (fun j => encS key (blkS l j))) ∧ Below w.heap.size w w' := by
  obtain ⟨hz, hib⟩ := zero_of_info infoB
  obtain ⟨i0, hi0, hz0, hz1, hz2⟩ := info_parts info_string
  have hmk : ∀ W : World, (Instr.makeSlice 33 (.int .i64 (n : Int)) (.int .i64 (n : Int))).run Tryz.prog W = .ok (.slice (some ⟨W.heap.size, 0, none⟩) n n) (W.alloc (.cells (scells (txP (blkS l) n 0)) 9)) := fun W => by
    have h := run_makeSlice W 33 9 i0 (.string ⟨#[]⟩) Tryz.underlying33 hi0 hz0 .i64 .i64 (n : Int) (n : Int) (by omega) (by omega) (by rw [hz1]; omega) (by rw [hz2]; omega) (by omega)
    rw [hz1, made_texts, Int.toNat_natCast, Nat.mul_one] at h
    rw [txP_zero]
    exact h
  have HT := Lib.hid hT
  have HL := Lib.hid hl
  have HG0 := Lib.hid hg
  have hglt := blk_lt hg
  have HX0 := Lib.hid (blk_new w (.cells (scells (txP (blkS l) n 0)) 9))
  have hb0 := below_new w (.cells (scells (txP (blkS l) n 0)) 9)
  clear hi0 hz0 hz1 hz2 hib hT hg hl
  go_enter Tryz.func89, Tryz.ntmps89
  go_wp2_with fail
  clear hmk
  generalize (w.alloc _) = W0 at *
  have HKz := Lib.hid hk
  clear hk
  go_loopw [6, 7, 15] (fun _ _ iv wr => ∃ m : Nat, m ≤ n ∧ iv = .int .i64 (m : Int) ∧ wr.heap[w.heap.size]? = some (.cells (scells (txP (blkS l) n m)) 9) ∧ Below w.heap.size w wr) (fun _ _ iv _ => n - (intOf iv).toNat)
  case atStart => exact ⟨0, by omega, rfl, HX0.out, hb0⟩
  case round =>
    clear HX0 hb0
    obtain ⟨m, hm, rfl, hx, hb⟩ := hrel
    have HX := Lib.hid hx
    clear hx
    by_cases hlt : m < n
    · have hd : decide ((m : Int) < (n : Int)) = true := by simp; omega
      have HGr := Lib.hid (blk_below hb hglt HG0.out)
      have HLe := Lib.hid (show m * 16 + 16 ≤ l.length from by rw [HL.out]; omega)
      have HI16 := Lib.hid (show (Tryz.prog.info? 119).map (·.size) = some 16 from (zero_of_info infoB).2)
      have hsl : (subL l (m * 16) 16).length = 16 := subL_length _ _ _ HLe.out
      have HSL := Lib.hid hsl
      have HIs := Lib.hid (sizeG _ hsl)
      have HOs := Lib.hid (gzeros_size _ hsl)
      have H1s := Lib.hid (arr_one (subL l (m * 16) 16))
      have HBS : Hid (blkS l m = ⟨(subL l (m * 16) 16).toArray⟩) := Lib.hid (by rw [blkS, Nat.mul_comm])
      have HSet := Lib.hid (txP_succ (blkS l) n m hlt)
      have hml : m < (txP (blkS l) n m).length := by rw [txP_length]; exact hlt
      have HN := Lib.hid (blk_new wr (.cells gzeros 119))
      have HN2 := Lib.hid (setRow_heap _ wr.heap.size _ (bcells (subL l (m * 16) 16)) _ _ HN.out)
      have HX2 := Lib.hid (show ((wr.alloc (.cells gzeros 119)).setRow wr.heap.size (bcells (subL l (m * 16) 16))).heap[w.heap.size]? = some (.cells (scells (txP (blkS l) n m)) 9) from by
        rw [setRow_other _ _ _ _ (by have := blk_lt HX.out; omega)]; exact blk_old HX.out)
      have hb2 : Below w.heap.size w ((wr.alloc (.cells gzeros 119)).setRow wr.heap.size (bcells (subL l (m * 16) 16))) := below_setRow (hb.alloc hb.size _) hb.size _
      have hcv := run_string_row ((wr.alloc (.cells gzeros 119)).setRow wr.heap.size (bcells (subL l (m * 16) 16))) wr.heap.size 16 (subL l (m * 16) 16) (cells_of_bcells HN2.out)
      rw [HSL.out, ← HBS.out] at hcv
      have sl := arr_sliced_all 119 16 wr.heap.size (by kernel_rfl) (by kernel_rfl) (by kernel_rfl) (by omega)
      have hco : ((wr.alloc (.cells gzeros 119)).setRow wr.heap.size (bcells (subL l (m * 16) 16))).cell? ⟨w.heap.size, m, none⟩ = some (.string (txP (blkS l) n m)[m]) := by rw [cell_of_row _ _ _ _ _ _ HX2.out]; exact scells_get _ _ _ (List.getElem?_eq_getElem hml)
      have hfo := frozen_of_row _ w.heap.size m _ _ HX2.out
      generalize (txP (blkS l) n m)[m] = old at hco
      have HX3 := Lib.hid (show (((wr.alloc (.cells gzeros 119)).setRow wr.heap.size (bcells (subL l (m * 16) 16))).setCell ⟨w.heap.size, m, none⟩ (.string (blkS l m))).heap[w.heap.size]? = some (.cells (scells (txP (blkS l) n (m + 1))) 9) from by
        rw [← HSet.out, ← scells_set]; exact Go.heap_setCell_same _ _ _ _ _ _ HX2.out)
      have hb3 : Below w.heap.size w (((wr.alloc (.cells gzeros 119)).setRow wr.heap.size (bcells (subL l (m * 16) 16))).setCell ⟨w.heap.size, m, none⟩ (.string (blkS l m))) := hb2.setCell (by simp) _
      generalize blkS l m = bs at *
      generalize hsub : subL l (m * 16) 16 = sub at *
      clear hsl hml
      go_wp2_with (first
        | (with_reducible refine wpList_load_sub rfl 119 _ rfl g (m * 16) rfl _ l 16 _ _ HGr.out Tryz.underlying119 rfl HI16.out HLe.out ?_)
        | (with_reducible refine wpList_store_row rfl 119 _ _ rfl wr.heap.size (bcells sub) rfl rfl 119 _ HN.out HIs.out HOs.out H1s.out ?_))
      go_roundw
      case rel => exact ⟨m + 1, by omega, by go_num, HX3.out, hb3⟩
      case measure => simp [intOf]; omega
    · have hd : decide ((m : Int) < (n : Int)) = false := by simp; omega
      obtain rfl : m = n := by omega
      have HTe := Lib.hid (texts_txP HX.out)
      have HBl := Lib.hid (blocks_any key (some ⟨w.heap.size, 0, none⟩) m m (blkS l) wr HKz.out hn HTe.out (fun i hi => blkS_size l m i HL.out hi) (HT.out.step hb))
      go_wp2_with fail
      refine HBl.out.mono ?_
      rintro e W3 ⟨⟨G, rfl, hG, hcs⟩, hb3⟩
      have HCs := Lib.hid hcs
      have hb4 := hb.trans (hb3.mono hb.size)
      clear hcs hb3 HBl
      go_wp2_with fail
      go_ret
      exact ⟨⟨G, rfl, fun j hj => ⟨G, 0, rfl, by rw [cell_of_row _ _ _ _ _ _ HCs.out, Nat.zero_add]; exact scells_get _ _ _ (ansP_get key (blkS l) _ j hj)⟩⟩, hb4⟩
end

section
open Go.RowKit Go.Sort
set_option maxRecDepth 100000
set_option linter.unusedSimpArgs false
set_option linter.unusedVariables false

/-- The counter blocks while they are laid: so many of n. -/
def ctP (nonce : List UInt8) (n m : Nat) : List UInt8 := (List.range (16 * n)).map fun i => if i < 16 * m then (ctG nonce (2 + i / 16)).getD (i % 16) 0 else 0
theorem ctP_length (nonce : List UInt8) (n m : Nat) : (ctP nonce n m).length = 16 * n := by simp [ctP]
theorem ctP_zero (nonce : List UInt8) (n : Nat) : ctP nonce n 0 = List.replicate (16 * n) 0 := bytes_ext (ctP_length _ _ _) List.length_replicate fun i hi => by
  rw [ctP, range_getD _ _ _ hi, if_neg (by omega), List.getD_eq_getElem?_getD, List.getElem?_replicate, if_pos hi]; rfl
theorem ctP_succ (nonce : List UInt8) (n m : Nat) (h : m < n) (hn : nonce.length = 12) : putMany (ctP nonce n m) (m * 16) (ctG nonce (2 + m)) = ctP nonce n (m + 1) := by
  have hc := ctG_length nonce (2 + m) hn
  refine bytes_ext (by rw [putMany_length, ctP_length]) (ctP_length _ _ _) fun i hi => ?_
  rw [putMany_get _ _ _ _ (by rw [hc, ctP_length]; omega), hc]
  unfold ctP
  rw [range_getD _ _ _ hi, range_getD _ _ _ hi]
  by_cases h1 : m * 16 ≤ i ∧ i < m * 16 + 16
  · rw [if_pos h1, if_pos (by omega), show 2 + i / 16 = 2 + m by omega, show i - m * 16 = i % 16 by omega]
  · rw [if_neg h1]
    by_cases h2 : i < 16 * m
    · rw [if_pos h2, if_pos (by omega)]
    · rw [if_neg h2, if_neg (by omega)]
theorem ctP_blk (nonce : List UInt8) (n j : Nat) (h : j < n) (hn : nonce.length = 12) : (blkS (ctP nonce n n) j).data.toList = ctG nonce (2 + j) := by
  show subL (ctP nonce n n) (16 * j) 16 = _
  refine bytes_ext (n := 16) (subL_length _ _ _ (by rw [ctP_length]; omega)) (ctG_length _ _ hn) fun i hi => ?_
  rw [subL_getD _ _ _ _ hi, ctP, range_getD _ _ _ (by omega), if_pos (by omega), show 2 + (16 * j + i) / 16 = 2 + j by omega, show (16 * j + i) % 16 = i by omega]
/-- Data while the stream goes over it: so many bytes. -/
def xrP (key nonce data : List UInt8) (m : Nat) : List UInt8 := (List.range data.length).map fun i => if i < m then strF key nonce data i else data.getD i 0
theorem xrP_length (key nonce data : List UInt8) (m : Nat) : (xrP key nonce data m).length = data.length := by simp [xrP]
theorem xrP_zero (key nonce data : List UInt8) : xrP key nonce data 0 = data := bytes_ext (xrP_length _ _ _ _) rfl fun i hi => by rw [xrP, range_getD _ _ _ hi, if_neg (by omega)]
theorem xrP_full (key nonce data : List UInt8) : xrP key nonce data data.length = strG key nonce data := bytes_ext (xrP_length _ _ _ _) (strG_length _ _ _) fun i hi => by rw [xrP, range_getD _ _ _ hi, strG, range_getD _ _ _ hi, if_pos hi]
theorem xrP_at (key nonce data : List UInt8) (m : Nat) (h : m < data.length) : (xrP key nonce data m).getD m 0 = data.getD m 0 := by rw [xrP, range_getD _ _ _ h, if_neg (by omega)]
theorem xrP_succ (key nonce data : List UInt8) (m : Nat) (h : m < data.length) : (xrP key nonce data m).set m (strF key nonce data m) = xrP key nonce data (m + 1) := by
  refine bytes_ext (by rw [List.length_set, xrP_length]) (xrP_length _ _ _ _) fun i hi => ?_
  rw [set_getD _ _ _ _ (by rw [xrP_length]; exact h)]
  unfold xrP
  rw [range_getD _ _ _ hi, range_getD _ _ _ hi]
  by_cases e : i = m
  · subst e; rw [if_pos rfl, if_pos (by omega)]
  · rw [if_neg e]
    by_cases h2 : i < m
    · rw [if_pos h2, if_pos (by omega)]
    · rw [if_neg h2, if_neg (by omega)]
/-- The conversion of a string to bytes: where they lie. -/
theorem run_convert_string_bytes_at (s : ByteArray) (w : World) : ∃ cap, (convert 9 46 (.string s)).run Tryz.prog w = .ok (.slice (some ⟨w.heap.size, 0, none⟩) s.size cap) (Lib.bytesWorld w 5 s) ∧ OwnS (Lib.bytesWorld w 5 s) w.heap.size w.heap.size cap (Lib.byteCells s.data.toList) ∧ Below w.heap.size w (Lib.bytesWorld w 5 s) := by
  have hl : (Lib.byteCells s.data.toList).length = s.size := by rw [Lib.byteCells_length, ← Lib.size_eq]
  have hge := grownCap_ge w s.size 0 5
  have hsz : (Lib.bytesCells w 5 s).size = grownCap w s.size 0 5 := by
    simp only [Lib.bytesCells, Array.size_append, Array.size_map, Array.size_replicate]
    have : s.data.size = s.size := rfl
    omega
  have hnew := Lib.bytesWorld_at_new w 5 s
  refine ⟨_, Lib.run_convert_string_bytes w 9 46 5 s Tryz.underlying9 Tryz.underlying46 Tryz.underlying5, ⟨Nat.le_refl _, by omega, ?_, ?_⟩, ?_⟩
  · intro j u hj
    have hlt : j < s.size := by rw [← hl]; exact (List.getElem?_eq_some_iff.1 hj).1
    rw [Lib.bytesWorld_cell w 5 s j hlt]
    have hlt' : j < s.data.toList.length := by rw [← Lib.size_eq]; exact hlt
    simp only [Lib.byteCells, List.getElem?_map, List.getElem?_eq_getElem hlt', Option.map_some] at hj
    rw [List.getD_eq_getElem?_getD, List.getElem?_eq_getElem hlt']
    exact hj
  · intro j hj
    constructor
    · rw [cell_of_row _ _ _ _ _ _ hnew]
      have : j < (Lib.bytesCells w 5 s).size := by omega
      simp [this]
    · have : j < (Lib.bytesCells w 5 s).size := by omega
      simp [World.frozen?, hnew]
      omega
  · exact ⟨rfl, rfl, rfl, by rw [Lib.bytesWorld_size]; omega, fun k hk => Lib.bytesWorld_at_old w 5 s k hk⟩
theorem OwnS.below2 {W W' : World} {base g cap : Nat} {xs : List Value} (h : OwnS W base g cap xs) (hb : Below W.heap.size W W') : OwnS W' base g cap xs := by
  refine ⟨h.base, h.le, fun j u hj => ?_, fun j hj => ?_⟩
  · have := h.cells j u hj
    exact (hb.cell (block_lt_of_cell this)).trans this
  · obtain ⟨u, hu⟩ := Option.isSome_iff_exists.1 (h.room j hj).1
    have hlt := block_lt_of_cell hu
    rw [hb.cell (p := ⟨g, j, none⟩) hlt, hb.frozen (p := ⟨g, j, none⟩) hlt]
    exact h.room j hj
theorem binfo_block : (Tryz.prog.info? 119).map (fun i => (i.zero, i.size, i.bytes)) = some (some (.agg gzeros), 16, 16) := by kernel_rfl
theorem made_blocks (n : Nat) : madeCells (Value.agg gzeros).cells (n * 16) = bcells (List.replicate (16 * n) 0) := by
  apply Array.ext_getElem?
  intro i
  have hz : (Value.agg gzeros).cells = gzeros := rfl
  have hs : gzeros.size = 16 := bcells_size _
  by_cases h : i < 16 * n
  · have h1 : i < n * 16 := by omega
    have h2 : i % 16 < 16 := Nat.mod_lt _ (by decide)
    have e : gzeros[i % 16]? = some (.int .u8 0) := by
      rw [gzeros, bcells_get _ _ 0 (by rw [zeroB, List.getElem?_replicate, if_pos h2])]; rfl
    have e2 : (bcells (List.replicate (16 * n) 0))[i]? = some (.int .u8 0) := by
      rw [bcells_get _ _ 0 (by rw [List.getElem?_replicate, if_pos h])]; rfl
    have e3 : gzeros[i % 16]! = .int .u8 0 := by rw [getElem!_def, e]
    rw [e2]
    simp [madeCells, hz, hs, h1, e3]
  · have h1 : ¬ i < n * 16 := by omega
    rw [Array.getElem?_eq_none (by rw [size_madeCells]; omega), Array.getElem?_eq_none (by rw [bcells_size, List.length_replicate]; omega)]

set_option maxHeartbeats 4000000 in
theorem xored_any (key nonce text : ByteArray) (w : World) (hk : key.size = 16) (hn : nonce.size = 12) (ht : text.size ≤ 20000) (hT : TabQ w) :
    Calls Tryz.prog 61 #[.string key, .string nonce, .string text] w fun e w' => e = .returned (.string ⟨(strG key.data.toList nonce.data.toList text.data.toList).toArray⟩) ∧ Below w.heap.size w w' := by
  obtain ⟨i0, hi0, hz0, hz1, hz2⟩ := info_parts binfo_block
  have hnl : nonce.data.toList.length = 12 := by rw [← Lib.size_eq]; exact hn
  obtain ⟨n, hnn⟩ : ∃ n, n = (text.size + 15) / 16 := ⟨_, rfl⟩
  have hn1 : n ≤ 1500 := by omega
  have hmk : ∀ W : World, (Instr.makeSlice 117 (.int .i64 (n : Int)) (.int .i64 (n : Int))).run Tryz.prog W = .ok (.slice (some ⟨W.heap.size, 0, none⟩) n n) (W.alloc (.cells (bcells (ctP nonce.data.toList n 0)) 119)) := fun W => by
    have h := run_makeSlice W 117 119 i0 (.agg gzeros) Tryz.underlying117 hi0 hz0 .i64 .i64 (n : Int) (n : Int) (by omega) (by omega) (by rw [hz1]; omega) (by rw [hz2]; omega) (by omega)
    rw [hz1, Int.toNat_natCast, made_blocks] at h
    rw [ctP_zero]
    exact h
  have q1 : ((text.size : Int) + 16 - 1) / 16 = (n : Int) := by omega
  have q2 : ((text.size : Int) + 15) / 16 = (n : Int) := by omega
  have q3 : IntKind.i64.wrap ((text.size : Int) + 16) = (text.size : Int) + 16 := IntWalk.i64_in _ (by omega)
  have q4 : IntKind.i64.wrap ((text.size : Int) + 16 - 1) = (text.size : Int) + 16 - 1 := IntWalk.i64_in _ (by omega)
  have q5 : ((text.size : Int) + 16 - 1).tdiv 16 = (n : Int) := by rw [Int.tdiv_eq_ediv_of_nonneg (by omega)]; exact q1
  have q6 : IntKind.i64.wrap (n : Int) = (n : Int) := IntWalk.i64_in _ (by omega)
  have HT := Lib.hid hT
  have HNL := Lib.hid hnl; have HNZ := Lib.hid hn; have HKZ := Lib.hid hk
  have HNN := Lib.hid hnn
  have HX0 := Lib.hid (blk_new w (.cells (bcells (ctP nonce.data.toList n 0)) 119))
  have hb0 := below_new w (.cells (bcells (ctP nonce.data.toList n 0)) 119)
  clear hi0 hz0 hz1 hz2 hT hnl hn hk hnn
  go_enter Tryz.func61, Tryz.ntmps61
  go_wp2_with fail
  clear hmk q1 q2 q3 q4 q5 q6
  generalize (w.alloc _) = W0 at *
  go_loopw [8, 20] (fun _ iv wr => ∃ m : Nat, m ≤ n ∧ iv = .int .i64 (m : Int) ∧ wr.heap[w.heap.size]? = some (.cells (bcells (ctP nonce.data.toList n m)) 119) ∧ Below w.heap.size w wr) (fun _ iv _ => n - (intOf iv).toNat)
  case atStart => exact ⟨0, by omega, rfl, HX0.out, hb0⟩
  case round =>
    clear HX0 hb0
    obtain ⟨m, hm, rfl, hx, hb⟩ := hrel
    have HX := Lib.hid hx
    clear hx
    by_cases hlt : m < n
    · have hd : decide ((m : Int) < (n : Int)) = true := by simp; omega
      have e1 : (m : Int) % 4294967296 = (m : Int) := by omega
      have e2 : (2 + (m : Int)) % 4294967296 = ((2 + m : Nat) : Int) := by omega
      have e3 : IntKind.u32.wrap (2 + (m : Int)) = ((2 + m : Nat) : Int) := by rw [IntKind.wrap_u32']; exact e2
      have HC := Lib.hid (fun W => counterBlock_any nonce (2 + m) W (by omega) HNZ.out)
      have HSet := Lib.hid (ctP_succ nonce.data.toList n m hlt HNL.out)
      have hcl := ctG_length nonce.data.toList (2 + m) HNL.out
      have HCL := Lib.hid hcl
      have HI16 := Lib.hid (show (Tryz.prog.info? 119).map (·.size) = some (ctG nonce.data.toList (2 + m)).length from by rw [hcl]; exact (zero_of_info infoB).2)
      have HLe := Lib.hid (show m * 16 + (ctG nonce.data.toList (2 + m)).length ≤ (ctP nonce.data.toList n m).length from by rw [hcl, ctP_length]; omega)
      clear hcl
      generalize ctG nonce.data.toList (2 + m) = ct at *
      go_wp2_with fail
      refine (HC.out wr).mono ?_
      rintro e W1 ⟨rfl, hb1⟩
      have HX1 := Lib.hid (blk_below hb1 (blk_lt HX.out) HX.out)
      have hb2 := hb.trans (hb1.mono hb.size)
      have HX2 := Lib.hid (setRow_heap W1 w.heap.size _ (bcells (putMany (ctP nonce.data.toList n m) (m * 16) ct)) _ _ HX1.out)
      rw [HSet.out] at HX2
      have hb3 : Below w.heap.size w (W1.setRow w.heap.size (bcells (putMany (ctP nonce.data.toList n m) (m * 16) ct))) := below_setRow hb2 (Nat.le_refl _) _
      rw [HSet.out] at hb3
      clear hb1 HC HX hb2 hb
      go_wp2_with (with_reducible refine wpList_store_sub rfl 119 _ _ rfl w.heap.size (m * 16) (ctP nonce.data.toList n m) ct rfl rfl 119 HX1.out HI16.out HLe.out ?_)
      rw [HSet.out]
      go_roundw
      case rel => exact ⟨m + 1, by omega, by go_num, HX2.out, hb3⟩
      case measure => simp [intOf]; omega
    · have hd : decide ((m : Int) < (n : Int)) = false := by simp; omega
      obtain rfl : m = n := by omega
      have HE := Lib.hid (encrypteds_any key (ctP nonce.data.toList m m) w.heap.size m m 119 _ wr HKZ.out hn1 (ctP_length _ _ _) HX.out (HT.out.step hb))
      go_wp2_with fail
      refine HE.out.mono ?_
      rintro e W2 ⟨⟨G, rfl, hG⟩, hb2⟩
      have HG := Lib.hid hG
      have hb3 := hb.trans (hb2.mono hb.size)
      clear hG hb2 HE HX hb
      obtain ⟨cap, hcv, hown, hbo⟩ := run_convert_string_bytes_at text W2
      have hb4 := hb3.trans (hbo.mono hb3.size)
      have HG2 := Lib.hid (HG.out.step hbo)
      have hcapi : cap = cap := rfl
      have hGlt : 0 < m → G < W2.heap.size := fun hp => textsAt_lt HG.out hp G 0 rfl
      have hsz2 := hb3.size
      have hsz3 : W2.heap.size < (Lib.bytesWorld W2 5 text).heap.size := by rw [Lib.bytesWorld_size]; omega
      generalize Lib.bytesWorld W2 5 text = W3 at *
      go_wp2_with fail
      have HO0 := Lib.hid hown
      have hSG : 0 < text.size → G < W2.heap.size := fun hp => hGlt (by have := HNN.out; omega)
      have HFs := Lib.hid (fun (j : Nat) (hj : j < text.size) => show (encS key (blkS (ctP nonce.data.toList m m) (j / 16))).size = 16 ∧ text.data.toList.getD j 0 ^^^ (encS key (blkS (ctP nonce.data.toList m m) (j / 16))).data.toList.getD (j % 16) 0 = strF key.data.toList nonce.data.toList text.data.toList j from
        ⟨encS_size _ _, by rw [strF, ← ctP_blk nonce.data.toList m (j / 16) (by have := HNN.out; omega) HNL.out]; rfl⟩)
      have HTL := Lib.hid (show text.data.toList.length = text.size from (Lib.size_eq text).symm)
      clear hcv hown hcapi hGlt
      generalize W2.heap.size = S at *
      generalize hdt : text.data.toList = dt at *
      have HDT := Lib.hid hdt
      clear hdt
      go_loopw [11, 39] (fun _ iv wr => ∃ j : Nat, j ≤ text.size ∧ iv = .int .i64 (j : Int) ∧ OwnS wr S S cap (Lib.byteCells (xrP key.data.toList nonce.data.toList dt j)) ∧ Below S W3 wr) (fun _ iv _ => text.size - (intOf iv).toNat)
      case atStart => exact ⟨0, by omega, rfl, by rw [xrP_zero]; exact HO0.out, Below.refl _ _⟩
      case round =>
        clear HO0
        obtain ⟨j, hj, rfl, hown, hbs⟩ := hrel
        have HO := Lib.hid hown
        clear hown
        by_cases hlj : j < text.size
        · have hd2 : decide ((j : Int) < (text.size : Int)) = true := by simp; omega
          have hGS := hSG (by omega)
          obtain ⟨hes, hef⟩ := HFs.out j hlj
          have HES := Lib.hid hes; have HEF := Lib.hid hef
          clear hes hef
          have hxl := xrP_length key.data.toList nonce.data.toList dt j
          have c1 : wr.cell? ⟨S, j, none⟩ = some (.int .u8 ((dt.getD j 0).toNat : Int)) := by
            rw [← xrP_at key.data.toList nonce.data.toList dt j (by rw [HTL.out]; exact hlj)]
            refine HO.out.cells j _ ?_
            have hj2 : j < (xrP key.data.toList nonce.data.toList dt j).length := by rw [hxl, HTL.out]; exact hlj
            simp [Lib.byteCells, List.getD_eq_getElem?_getD, hj2]
          have hjl : j < (Lib.byteCells (xrP key.data.toList nonce.data.toList dt j)).length := by rw [Lib.byteCells_length, hxl, HTL.out]; exact hlj
          have HCx := Lib.hid (show (Lib.byteCells (xrP key.data.toList nonce.data.toList dt j))[j]? = some (.int .u8 ((dt.getD j 0).toNat : Int)) from by
            rw [← xrP_at key.data.toList nonce.data.toList dt j (by rw [HTL.out]; exact hlj)]
            have hj2 : j < (xrP key.data.toList nonce.data.toList dt j).length := by rw [hxl, HTL.out]; exact hlj
            simp [Lib.byteCells, List.getD_eq_getElem?_getD, hj2])
          have HXs := Lib.hid (xrP_succ key.data.toList nonce.data.toList dt j (by rw [HTL.out]; exact hlj))
          have hgt := (textsAt_keep HG2.out hbs (fun g off h => by cases h; exact hGS)) (j / 16) (by have := HNN.out; omega)
          obtain ⟨g', off', hgo, c2⟩ := hgt
          cases hgo
          rw [Nat.zero_add] at c2
          replace c2 : wr.cell? ⟨G, j / 16, none⟩ = some (.string (encS key (blkS (ctP nonce.data.toList m m) (j / 16)))) := c2
          have ix := index_text (encS key (blkS (ctP nonce.data.toList m m) (j / 16))) (j % 16) (by rw [HES.out]; exact Nat.mod_lt _ (by omega))
          have HX := Lib.hid (au8x (dt.getD j 0) ((encS key (blkS (ctP nonce.data.toList m m) (j / 16))).data.toList.getD (j % 16) 0))
          rw [HEF.out] at HX
          have hqm : j / 16 < m := by have := HNN.out; omega
          clear hxl HEF
          generalize encS key (blkS (ctP nonce.data.toList m m) (j / 16)) = es at *
          generalize es.data.toList.getD (j % 16) 0 = y at *
          generalize dt.getD j 0 = x at *
          have e1 : (j : Int) / 16 = ((j / 16 : Nat) : Int) := by omega
          have e2 : (j : Int) % 16 = ((j % 16 : Nat) : Int) := by omega
          have e3 : (j : Int).tdiv 16 = ((j / 16 : Nat) : Int) := by rw [Int.tdiv_eq_ediv_of_nonneg (by omega)]; omega
          have e4 : (j : Int).tmod 16 = ((j % 16 : Nat) : Int) := by rw [Int.tmod_eq_emod_of_nonneg (by omega)]; omega
          have b1 : ((j / 16 : Nat) : Int) < (m : Int) := by omega
          generalize j / 16 = jq at *
          generalize j % 16 = jr at *
          go_wp2_with fail
          have q1 := cell_regrown c1
          have q2 := cell_regrown c2
          refine wp_region_reads_tail 14 (by kernel_rfl) (by kernel_rfl) ?_
          simp only [List.take_succ_cons, List.take_zero, List.drop_succ_cons, List.drop_zero]
          repeat (first | go_big_quiet_step (fail) | quiet_step (fail))
          refine wpQuiet_nil ?_
          intro Y hY
          have HOy := Lib.hid (HO.out.below2 hY)
          have cy := HOy.out.cells j (.int .u8 (x.toNat : Int)) HCx.out
          have fy := (HOy.out.room j (Nat.lt_of_lt_of_le hjl HOy.out.le)).2
          have hby := hbs.trans (hY.mono (by have := hbs.size; omega))
          have HPut := Lib.hid (HOy.out.put j hjl (.int .u8 ((strF key.data.toList nonce.data.toList dt j).toNat : Int)))
          rw [Lib.byteCells, ← List.map_set (f := fun b : UInt8 => Value.int .u8 (b.toNat : Int)), HXs.out] at HPut
          clear HO q1 q2 c1 c2 hY ix hbs
          rw [HX.out]
          go_wp2_with fail
          go_roundw
          case rel => exact ⟨j + 1, by omega, by go_num, HPut.out, hby.setCell (by simp) _⟩
          case measure => simp [intOf]; omega
        · have hd2 : decide ((j : Int) < (text.size : Int)) = false := by simp; omega
          obtain rfl : j = text.size := by omega
          have hrow : xrP key.data.toList nonce.data.toList dt text.size = strG key.data.toList nonce.data.toList dt := by rw [← HTL.out]; exact xrP_full _ _ _
          have hbf := hb4.trans (hbs.mono (by omega))
          have hsl := strG_length key.data.toList nonce.data.toList dt
          rw [HTL.out] at hsl
          rw [hrow] at HO
          generalize hro : strG key.data.toList nonce.data.toList dt = row at *
          have hcv := run_string_at wr S 0 cap text.size row hsl (fun j x hx => by
            rw [Nat.zero_add]
            exact HO.out.cells j _ (by simp [Lib.byteCells, hx]))
          clear HO hrow hsl hb4
          go_wp2_with fail
          go_ret
          exact ⟨by rw [HDT.out, hro]; rfl, hbf⟩
end

section
open Go.RowKit Go.Sort
set_option maxRecDepth 100000
set_option linter.unusedSimpArgs false
set_option linter.unusedVariables false

theorem gsixteen (l : List UInt8) (h : l.length = 16) : ∃ a b c d e f g i j k m n o p q r, l = [a, b, c, d, e, f, g, i, j, k, m, n, o, p, q, r] := by
  match l, h with
  | [a, b, c, d, e, f, g, i, j, k, m, n, o, p, q, r], _ => exact ⟨a, b, c, d, e, f, g, i, j, k, m, n, o, p, q, r, rfl⟩
theorem two_blocks (ct : List UInt8) (h : ct.length = 16) (W : World) : (Instr.buildSlice 117 2 #[(0, .agg gzeros), (1, .agg (bcells ct))]).run Tryz.prog W = .ok (.slice (some ⟨W.heap.size, 0, none⟩) 2 2) (W.alloc (.cells (bcells (zeroB ++ ct)) 119)) := by
  obtain ⟨i0, hi0, hz0, hz1, hz2⟩ := info_parts binfo_block
  refine run_buildSlice W 117 119 2 _ _ i0 (.agg gzeros) Tryz.underlying117 hi0 hz0 (by rw [hz1]; omega) (by rw [hz1]; omega) ?_
  rw [hz1]
  show Instr.fill _ (madeCells (Value.agg gzeros).cells (2 * 16)) _ = _
  rw [made_blocks 2]
  obtain ⟨a, b, c, d, e, f, g, i, j, k, m, n, o, p, q, r, rfl⟩ := gsixteen ct h
  simp [Instr.fill, Value.cells, gzeros, zeroB, bcells, Lib.byteCells, List.replicate]
theorem wpList_two {ops : Array Oper} {rest : List Oper} {o : Oper} {a : Act} {w : World} {Q : Exit → Act → World → Prop} (hg : o.guard = none) (x y : Operand) (ho : o.op = .buildSlice 117 2 #[(0, x), (1, y)])
    (ct : List UInt8) (hct : ct.length = 16) (hx : a.eval x = .agg gzeros) (hy : a.eval y = .agg (bcells ct))
    (h : wpList Tryz.prog ops Q rest (a.put o.dst (.slice (some ⟨w.heap.size, 0, none⟩) 2 2)) (w.alloc (.cells (bcells (zeroB ++ ct)) 119))) : wpList Tryz.prog ops Q (o :: rest) a w :=
  wpList_plain hg fun _ hK => by
    unfold Oper.wp execOp
    simp only [ho, Sem.run_bind, List.map_toArray, List.map_cons, List.map_nil, hx, hy, two_blocks ct hct w, Result.andThen_ok]
    exact hK _ _ h
end

section
open Go.RowKit Go.Sort
set_option maxRecDepth 100000
set_option linter.unusedSimpArgs false
set_option linter.unusedVariables false

/-- The three texts that the tag is a digest of. -/
def tagF (beside hidden ls : ByteArray) (j : Nat) : ByteArray := if j = 0 then beside else if j = 1 then hidden else ls
theorem texts_three (W : World) (g : Nat) (a b c : ByteArray) (h : W.heap[g]? = some (.cells #[.string a, .string b, .string c] 9)) : TextsAt W (some ⟨g, 0, none⟩) 3 (tagF a b c) := fun j hj => ⟨g, 0, rfl, by
  rw [cell_of_row _ _ _ _ _ _ h]
  rcases (show j = 0 ∨ j = 1 ∨ j = 2 by omega) with rfl | rfl | rfl <;> rfl⟩
theorem two_first (ct : List UInt8) : (blkS (zeroB ++ ct) 0).data.toList = zeroB := by
  show subL (zeroB ++ ct) (16 * 0) 16 = _
  rw [subL, Nat.mul_zero, List.drop_zero, List.take_append_of_le_length (by rw [zeroB, List.length_replicate]; omega), List.take_of_length_le (by rw [zeroB, List.length_replicate]; omega)]
theorem two_second (ct : List UInt8) (h : ct.length = 16) : (blkS (zeroB ++ ct) 1).data.toList = ct := by
  show subL (zeroB ++ ct) (16 * 1) 16 = _
  rw [subL, List.drop_append_of_le_length (by rw [zeroB, List.length_replicate]; omega), List.drop_of_length_le (by rw [zeroB, List.length_replicate]; omega), List.nil_append, List.take_of_length_le (by omega)]

set_option maxHeartbeats 4000000 in
theorem tag_any (key nonce beside hidden : ByteArray) (w : World) (hk : key.size = 16) (hn : nonce.size = 12) (h1 : beside.size ≤ 1048576) (h2 : hidden.size ≤ 1048576) (hT : TabQ w) :
    Calls Tryz.prog 62 #[.string key, .string nonce, .string beside, .string hidden] w fun e w' => e = .returned (.string ⟨(tagG key.data.toList nonce.data.toList beside.data.toList hidden.data.toList).toArray⟩) ∧ Below w.heap.size w w' := by
  obtain ⟨hz, hi⟩ := zero_of_info infoB
  have hnl : nonce.data.toList.length = 12 := by rw [← Lib.size_eq]; exact hn
  have HC := Lib.hid (fun W => counterBlock_any nonce 1 W (by omega) hn)
  have hcl := ctG_length nonce.data.toList 1 hnl
  have HCl := Lib.hid hcl
  have HTG : Hid (tagG key.data.toList nonce.data.toList beside.data.toList hidden.data.toList = plS (hashG (enL key.data.toList zeroB) (tagD beside.data.toList hidden.data.toList)) (enL key.data.toList (ctG nonce.data.toList 1))) := Lib.hid rfl
  have HHs := Lib.hid (show dgA (enL key.data.toList zeroB) (tagF beside hidden ⟨(twoB (8 * beside.size) (8 * hidden.size)).toArray⟩) 3 = hashG (enL key.data.toList zeroB) (tagD beside.data.toList hidden.data.toList) from by
    rw [dgA_three, tagD_three, ← Lib.size_eq, ← Lib.size_eq]; rfl)
  have HE := Lib.hid (fun (W : World) (hq : TabQ W) => encrypteds_any key (zeroB ++ ctG nonce.data.toList 1) W.heap.size 2 2 119 (0, 0) (W.alloc (.cells (bcells (zeroB ++ ctG nonce.data.toList 1)) 119)) hk (by omega) (by rw [List.length_append, hcl, zeroB, List.length_replicate]) (blk_new W _) (hq.step (below_new W _)))
  have HK1 := Lib.hid (show (encS key (blkS (zeroB ++ ctG nonce.data.toList 1) 0)).data.toList = enL key.data.toList zeroB from by
    show enL key.data.toList (blkS (zeroB ++ ctG nonce.data.toList 1) 0).data.toList = _
    rw [two_first])
  have HK2 := Lib.hid (show (encS key (blkS (zeroB ++ ctG nonce.data.toList 1) 1)).data.toList = enL key.data.toList (ctG nonce.data.toList 1) from by
    show enL key.data.toList (blkS (zeroB ++ ctG nonce.data.toList 1) 1).data.toList = _
    rw [two_second _ hcl])
  have hTk := enL_length key.data.toList zeroB
  have hTe := enL_length key.data.toList (ctG nonce.data.toList 1)
  have HT := Lib.hid hT
  clear hi hT hk hn hnl hcl
  generalize ctG nonce.data.toList 1 = ct at *
  generalize enL key.data.toList zeroB = hkey at *
  generalize enL key.data.toList ct = eb at *
  generalize hs0 : encS key (blkS (zeroB ++ ct) 0) = s0 at *
  have HS0 := Lib.hid hs0
  clear hs0
  go_enter Tryz.func62, Tryz.ntmps62
  go_wp2_with fail
  refine (HC.out w).mono ?_
  rintro e W1 ⟨rfl, hb1⟩
  go_wp2_with (with_reducible refine wpList_two rfl (.tmp 15) (.tmp 17) rfl ct HCl.out rfl rfl ?_)
  refine (HE.out W1 (HT.out.step hb1)).mono ?_
  rintro e W2 ⟨⟨G, rfl, hG⟩, hb2⟩
  have HG := Lib.hid hG
  have hb3 : Below w.heap.size w W2 := (hb1.alloc hb1.size _).trans (hb2.mono (by have := hb1.size; simp; omega))
  clear hG hb2 hb1 HE HC
  go_wp2_with fail
  refine (gbits_any beside W2 (by omega)).mono ?_
  rintro e W ⟨rfl, rfl⟩
  go_wp2_with fail
  refine (gbits_any hidden W2 (by omega)).mono ?_
  rintro e W ⟨rfl, rfl⟩
  go_wp2_with fail
  have HTw := Lib.hid (twoOf_any (8 * beside.size) (8 * hidden.size))
  have htl := twoB_length (8 * beside.size) (8 * hidden.size)
  generalize twoB (8 * beside.size) (8 * hidden.size) = tw at *
  refine (HTw.out W2).mono ?_
  rintro e W3 ⟨rfl, hb4⟩
  have HG3 := Lib.hid (HG.out.step hb4)
  have hb5 := hb3.trans (hb4.mono hb3.size)
  have HN := Lib.hid (blk_new W3 (.cells gzeros 119))
  have HN2 := Lib.hid (setRow_heap _ W3.heap.size _ (bcells tw) _ _ HN.out)
  have hsz3 := hb5.size
  have hb6 : Below w.heap.size w ((W3.alloc (.cells gzeros 119)).setRow W3.heap.size (bcells tw)) := below_setRow (hb5.alloc hsz3 _) hsz3 _
  have HG4 := Lib.hid (HG3.out.step (show Below W3.heap.size W3 ((W3.alloc (.cells gzeros 119)).setRow W3.heap.size (bcells tw)) from below_setRow (below_new W3 _) (Nat.le_refl _) _))
  have HIt := Lib.hid (sizeG tw htl)
  have HOt := Lib.hid (gzeros_size tw htl)
  have H1t := Lib.hid (arr_one tw)
  have HTL := Lib.hid htl
  clear HG HTw hb4 HG3 hb3 hb5 htl
  go_wp2_with (with_reducible refine wpList_store_row rfl 119 _ _ rfl W3.heap.size (bcells tw) rfl rfl 119 _ HN.out HIt.out HOt.out H1t.out ?_)
  simp only [Act.put]
  have HBo0 := Lib.hid (fun W => blockOf_any s0 W)
  have hH1 := HK1.out; have hH2 := HK2.out
  rw [hH1, fitB_self _ hTk] at HBo0
  have HBo1 := Lib.hid (fun W => blockOf_any (encS key (blkS (zeroB ++ ct) 1)) W)
  rw [hH2, fitB_self _ hTe] at HBo1
  obtain ⟨g0, o0, hgo0, c0⟩ := HG4.out 0 (by omega)
  cases hgo0
  obtain ⟨g1, o1, hgo1, c1⟩ := HG4.out 1 (by omega)
  cases hgo1
  rw [Nat.zero_add] at c0 c1
  have c0' := c0.trans (show some (Value.string (encS key (blkS (zeroB ++ ct) 0))) = some (Value.string s0) by rw [HS0.out])
  have c1' : ((W3.alloc (.cells gzeros 119)).setRow W3.heap.size (bcells tw)).cell? ⟨G, 1, none⟩ = some (.string (encS key (blkS (zeroB ++ ct) 1))) := c1
  have hl0 := HTL.out
  have hcv := cells_of_bcells HN2.out
  have sl := arr_sliced_all 119 16 W3.heap.size (by kernel_rfl) (by kernel_rfl) (by kernel_rfl) (by omega)
  have HHs' : Hid (dgA hkey (tagF beside hidden ⟨tw.toArray⟩) 3 = hashG hkey (tagD beside.data.toList hidden.data.toList)) := HHs
  have hhl := hashG_length hkey (tagD beside.data.toList hidden.data.toList)
  have HTG' : Hid (tagG key.data.toList nonce.data.toList beside.data.toList hidden.data.toList = plS (hashG hkey (tagD beside.data.toList hidden.data.toList)) eb) := HTG
  have HFs := Lib.hid (show ∀ i, i < 3 → (tagF beside hidden ⟨tw.toArray⟩ i).size ≤ 1099511627776 from fun i hi => by
    rcases (show i = 0 ∨ i = 1 ∨ i = 2 by omega) with rfl | rfl | rfl
    · show beside.size ≤ _; omega
    · show hidden.size ≤ _; omega
    · show tw.length ≤ _; omega)
  have HD := Lib.hid (fun (g : Nat) (W : World) (h : W.heap[g]? = some (.cells #[.string beside, .string hidden, .string ⟨tw.toArray⟩] 9)) => digest_any hkey (some ⟨g, 0, none⟩) 3 3 (tagF beside hidden ⟨tw.toArray⟩) W hTk (by omega) (texts_three W g beside hidden ⟨tw.toArray⟩ h) HFs.out)
  rw [HHs'.out] at HD
  generalize hashG hkey (tagD beside.data.toList hidden.data.toList) = hh at *
  generalize encS key (blkS (zeroB ++ ct) 1) = s1 at *
  have HN3 := Lib.hid HN2.out
  clear c0 c1 HTG HHs HHs' HFs
  generalize hW4 : (W3.alloc (.cells gzeros 119)).setRow W3.heap.size (bcells tw) = W4 at *
  clear hW4
  generalize W3.heap.size = T at *
  have HHL := Lib.hid hhl
  have HIh := Lib.hid (sizeG hh hhl)
  have HOh := Lib.hid (gzeros_size hh hhl)
  have H1h := Lib.hid (arr_one hh)
  have HIe := Lib.hid (sizeG eb hTe)
  have HOe := Lib.hid (gzeros_size eb hTe)
  have H1e := Lib.hid (arr_one eb)
  have HEL := Lib.hid hTe
  clear HN HN2 HIt HOt H1t hhl hTe hTk HK1 HK2 hH1 hH2 HCl HS0 HG4 hl0 h1 h2
  have hOb : (Obj.cells #[Value.string beside, Value.string hidden, Value.string ⟨tw.toArray⟩] 9) = (Obj.cells #[Value.string beside, Value.string hidden, Value.string ⟨tw.toArray⟩] 9) := rfl
  refine wp_region_made 16 53 [
    .val (.slice (some ⟨G, 0, none⟩) 2 2) [(9, .slice (some ⟨G, 0, none⟩) 2 2)],
    .val (.pointer (some ⟨G, 0, none⟩)) [(25, .slice (some ⟨G, 0, none⟩) 2 2)],
    .val (.string s0) [(26, .pointer (some ⟨G, 0, none⟩))],
    .val (.agg (bcells hkey)) [(27, .string s0)],
    .val (.string beside) [(2, .string beside)],
    .val (.string hidden) [(3, .string hidden)],
    .val (.slice (some ⟨T, 0, none⟩) 16 16) [(10, .pointer (some ⟨T, 0, none⟩))],
    .val (.string ⟨tw.toArray⟩) [(31, .slice (some ⟨T, 0, none⟩) 16 16)],
    .new (.cells #[.string beside, .string hidden, .string ⟨tw.toArray⟩] 9) (mkS 3 3) [(29, .string beside), (30, .string hidden), (32, .string ⟨tw.toArray⟩)],
    .from (.agg (bcells hh)) [(28, .agg (bcells hkey))] [(8, 33, .cells #[.string beside, .string hidden, .string ⟨tw.toArray⟩] 9, mkS 3 3)],
    .val (.slice (some ⟨G, 0, none⟩) 2 2) [(9, .slice (some ⟨G, 0, none⟩) 2 2)],
    .val (.pointer (some ⟨G, 1, none⟩)) [(35, .slice (some ⟨G, 0, none⟩) 2 2)],
    .val (.string s1) [(36, .pointer (some ⟨G, 1, none⟩))],
    .val (.agg (bcells eb)) [(37, .string s1)],
    .new (.cells gzeros 119) mkP [],
    .new (.cells gzeros 119) mkP []]
    (by kernel_rfl) (by kernel_rfl) (by kernel_rfl) rfl ?_ ?_ ?_ ?_
  · simp [madeMk, MadeSpec.val, MadeSpec.from, MadeSpec.new]
  · simp only [List.take_succ_cons, List.take_zero, madeObl, madeSpecObl, MadeSpec.val, MadeSpec.from, MadeSpec.new, and_true]
    refine ⟨?_, ?_, ?_, ?_, ?_, ?_, ?_, ?_, ?_, ?_, ?_, ?_, ?_, ?_, ?_, ?_⟩
    · intro a w hb h _
      have e := h (9, .slice (some ⟨G, 0, none⟩) 2 2) (by simp)
      simp only [Array.getD_eq_getD_getElem?] at e
      simp [go_sem, e, sQuiet]
    · intro a w hb h _
      have e := h (25, .slice (some ⟨G, 0, none⟩) 2 2) (by simp)
      simp only [Array.getD_eq_getD_getElem?] at e
      simp [go_sem, e, sQuiet]
    · intro a w hb h _
      have e := h (26, .pointer (some ⟨G, 0, none⟩)) (by simp)
      simp only [Array.getD_eq_getD_getElem?] at e
      have c := (hb.cell (p := ⟨G, 0, none⟩) (block_lt_of_cell c0')).trans c0'
      simp [go_sem, e, sQuiet, c]
    · intro a w hb h _
      have e := h (27, .string s0) (by simp)
      simp only [Array.getD_eq_getD_getElem?] at e
      simp [go_sem, e, sQuiet]
      exact HBo0.out w
    · intro a w hb h _
      have e := h (2, .string beside) (by simp)
      simp only [Array.getD_eq_getD_getElem?] at e
      simp [go_sem, e, sQuiet]
    · intro a w hb h _
      have e := h (3, .string hidden) (by simp)
      simp only [Array.getD_eq_getD_getElem?] at e
      simp [go_sem, e, sQuiet]
    · intro a w hb h _
      have e := h (10, .pointer (some ⟨T, 0, none⟩)) (by simp)
      simp only [Array.getD_eq_getD_getElem?] at e
      simp [go_sem, e, sQuiet, sl]
    · intro a w hb h _
      have e := h (31, .slice (some ⟨T, 0, none⟩) 16 16) (by simp)
      simp only [Array.getD_eq_getD_getElem?] at e
      have hcs := run_string_row w T 16 tw (cells_of_bcells (blk_below hb (blk_lt HN3.out) HN3.out))
      rw [HTL.out] at hcs
      simp [go_sem, e, sQuiet, hcs]
    · refine ⟨fun g => rfl, ?_⟩
      intro a w hb h
      have e0 := h (29, .string beside) (by simp)
      have e1 := h (30, .string hidden) (by simp)
      have e2 := h (32, .string ⟨tw.toArray⟩) (by simp)
      simp only [Array.getD_eq_getD_getElem?] at e0 e1 e2
      simp [go_sem, e0, e1, e2, mkS]
    · intro a w hb h hm
      have e0 := h (28, .agg (bcells hkey)) (by simp)
      obtain ⟨g, e1, hgo⟩ := hm _ (List.mem_singleton.2 rfl)
      simp only [Array.getD_eq_getD_getElem?] at e0 e1
      simp [go_sem, e0, e1, sQuiet, mkS]
      exact HD.out g w hgo
    · intro a w hb h _
      have e := h (9, .slice (some ⟨G, 0, none⟩) 2 2) (by simp)
      simp only [Array.getD_eq_getD_getElem?] at e
      simp [go_sem, e, sQuiet]
    · intro a w hb h _
      have e := h (35, .slice (some ⟨G, 0, none⟩) 2 2) (by simp)
      simp only [Array.getD_eq_getD_getElem?] at e
      simp [go_sem, e, sQuiet]
    · intro a w hb h _
      have e := h (36, .pointer (some ⟨G, 1, none⟩)) (by simp)
      simp only [Array.getD_eq_getD_getElem?] at e
      have c := (hb.cell (p := ⟨G, 1, none⟩) (block_lt_of_cell c1')).trans c1'
      simp [go_sem, e, sQuiet, c]
    · intro a w hb h _
      have e := h (37, .string s1) (by simp)
      simp only [Array.getD_eq_getD_getElem?] at e
      simp [go_sem, e, sQuiet]
      exact HBo1.out w
    · refine ⟨fun g => rfl, ?_⟩
      intro a w hb h
      simp [go_sem, hz, mkP]
    · refine ⟨fun g => rfl, ?_⟩
      intro a w hb h
      simp [go_sem, hz, mkP]
  · simp [madeReads, headPut, madeV, MadeSpec.val, MadeSpec.from, MadeSpec.new, Act.put]
  · simp only [List.take_succ_cons, List.take_zero, List.drop_succ_cons, List.drop_zero, madeEnd, MadeSpec.val, MadeSpec.from, MadeSpec.new, Act.put, List.setIfInBounds_toArray, List.set_cons_succ, List.set_cons_zero]
    intro g33 hg33 _ X hX _ Y hY hXY w1 hb1 hgs
    have hXY' : X ≠ Y := hXY (X, .cells gzeros 119) (by simp)
    have HX1 := Lib.hid (show w1.heap[X]? = some (.cells gzeros 119) from hgs (X, .cells gzeros 119) (by simp))
    have HY1 := Lib.hid (show w1.heap[Y]? = some (.cells gzeros 119) from hgs (Y, .cells gzeros 119) (by simp))
    have hsz4 := hb6.size
    have hXw : w.heap.size ≤ X := by omega
    have hYw : w.heap.size ≤ Y := by omega
    have hb7 := hb6.trans (hb1.mono hsz4)
    clear hXY hgs HD HBo0 HBo1 hb1 hb6 c0' c1' HN3 hsz3 hOb hcv sl
    have HX2 := Lib.hid (setRow_heap w1 X _ (bcells hh) _ _ HX1.out)
    have HY1' := Lib.hid (show (w1.setRow X (bcells hh)).heap[Y]? = some (.cells gzeros 119) from by rw [setRow_other _ _ _ _ (Ne.symm hXY')]; exact HY1.out)
    have HY3 := Lib.hid (setRow_heap (w1.setRow X (bcells hh)) Y _ (bcells eb) _ _ HY1'.out)
    have HX3 := Lib.hid (show ((w1.setRow X (bcells hh)).setRow Y (bcells eb)).heap[X]? = some (.cells (bcells hh) 119) from by rw [setRow_other _ _ _ _ hXY']; exact HX2.out)
    have hb8 : Below w.heap.size w ((w1.setRow X (bcells hh)).setRow Y (bcells eb)) := below_setRow (below_setRow hb7 hXw _) hYw _
    simp only [mkP, mkS]
    go_wp2_with (first
      | (with_reducible refine wpList_store_row rfl 119 _ _ rfl X (bcells hh) rfl rfl 119 _ HX1.out HIh.out HOh.out H1h.out ?_)
      | (with_reducible refine wpList_store_row rfl 119 _ _ rfl Y (bcells eb) rfl rfl 119 _ HY1'.out HIe.out HOe.out H1e.out ?_))
    clear HX1 HY1 HX2 HY1' hb7
    generalize World.setRow (World.setRow _ _ _) _ _ = w2 at *
    go_loopw [13, 39] (fun _ i wr => ∃ m : Nat, m ≤ 16 ∧ i = .int .i64 (m : Int) ∧ wr.heap[X]? = some (.cells (bcells (plP hh eb m)) 119) ∧ wr.heap[Y]? = some (.cells (bcells eb) 119) ∧ Below w.heap.size w wr) (fun _ i _ => 16 - (intOf i).toNat)
    case atStart => exact ⟨0, by omega, rfl, by rw [plP_zero hh eb HHL.out]; exact HX3.out, HY3.out, hb8⟩
    case round =>
      clear HX3 HY3 hb8
      obtain ⟨m, hm, rfl, hx, hy, hb⟩ := hrel
      have HX := Lib.hid hx; have HY := Lib.hid hy
      clear hx hy
      by_cases hlt : m < 16
      · have hd : decide ((m : Int) < 16) = true := by simp; omega
        have HL := Lib.hid (plP_length hh eb m)
        have cx := bcell_at HX.out m (by rw [HL.out]; exact hlt)
        have ck := bcell_at HY.out m (by rw [HEL.out]; exact hlt)
        have HXx := Lib.hid (u8x ((plP hh eb m).getD m 0) (eb.getD m 0))
        have HSet := Lib.hid (fun (V : World) (hV : V.heap[X]? = some (.cells (bcells (plP hh eb m)) 119)) => bheap_set hV m ((plP hh eb m).getD m 0 ^^^ eb.getD m 0))
        rw [plP_succ hh eb m hlt] at HSet
        generalize (plP hh eb m).getD m 0 = x at *
        generalize eb.getD m 0 = y at *
        go_wp2_with fail
        have q1 := cell_regrown cx
        have q2 := cell_regrown ck
        refine wp_region_reads_tail 8 (by kernel_rfl) (by kernel_rfl) ?_
        simp only [List.take_succ_cons, List.take_zero, List.drop_succ_cons, List.drop_zero]
        repeat (first | go_big_quiet_step (fail) | quiet_step (fail))
        refine wpQuiet_nil ?_
        intro V hV
        have hlX : X < wr.heap.size := blk_lt HX.out
        have hlY : Y < wr.heap.size := blk_lt HY.out
        have HX2 := Lib.hid (blk_below hV hlX HX.out)
        have HY2 := Lib.hid (blk_below hV hlY HY.out)
        have hb2 : Below w.heap.size w V := hb.trans (hV.mono hb.size)
        have cy := bcell_at HX2.out m (by rw [HL.out]; exact hlt)
        have fy := frozen_of_row V X m _ _ HX2.out
        clear hV q1 q2 cx ck HX HY hb hlX hlY
        rw [HXx.out]
        go_wp2_with fail
        go_roundw
        case rel => exact ⟨m + 1, by omega, by go_num, HSet.out V HX2.out, by rw [heap_setCell_other _ _ _ _ (by simpa using (Ne.symm hXY'))]; exact HY2.out, hb2.setCell (by simpa using hXw) _⟩
        case measure => simp [intOf]; omega
      · have hd : decide ((m : Int) < 16) = false := by simp; omega
        obtain rfl : m = 16 := by omega
        have hx := HX.out
        rw [plP_full hh eb, ← HTG'.out] at hx
        have htl := tagG_length key.data.toList nonce.data.toList beside.data.toList hidden.data.toList
        have sl := arr_sliced_all 119 16 X (by kernel_rfl) (by kernel_rfl) (by kernel_rfl) (by omega)
        have hcv := run_string_row wr X 16 _ (cells_of_bcells hx)
        rw [htl] at hcv
        clear HX hx htl
        generalize hqq : tagG key.data.toList nonce.data.toList beside.data.toList hidden.data.toList = tg at *
        have HTQ := Lib.hid hqq
        clear hqq
        go_wp2_with fail
        go_ret
        exact ⟨by rw [HTQ.out]; rfl, hb⟩
end

section
open Go.RowKit Go.Sort
set_option maxRecDepth 100000
set_option linter.unusedSimpArgs false
set_option linter.unusedVariables false

theorem append_bytes2 (a : ByteArray) (l : List UInt8) : a ++ ⟨l.toArray⟩ = (⟨(a.data.toList ++ l).toArray⟩ : ByteArray) := by
  apply ByteArray.ext
  rw [ByteArray.data_append]
  simp
theorem gor_xor_zero (d x y : Nat) (hd : d < 256) (hx : x < 256) (hy : y < 256) : bits .or .u8 (d : Int) (bits .xor .u8 (x : Int) (y : Int)) = 0 ↔ d = 0 ∧ x = y := by
  rw [u8_xor_nat x y hx hy, u8_or_nat d (x ^^^ y) hd (Nat.xor_lt_two_pow (n := 8) hx hy)]
  constructor
  · intro h
    have h' : d ||| (x ^^^ y) = 0 := by omega
    rw [Nat.or_eq_zero_iff] at h'
    refine ⟨h'.1, ?_⟩
    have e : (x ^^^ y) ^^^ y = 0 ^^^ y := by rw [h'.2]
    rwa [Nat.xor_assoc, Nat.xor_self, Nat.xor_zero, Nat.zero_xor] at e
  · rintro ⟨rfl, rfl⟩
    simp

set_option maxHeartbeats 1000000 in
theorem gsame_any (a b : ByteArray) (w : World) (ha : a.size ≤ maxLen) (hb' : b.size ≤ maxLen) :
    Calls Tryz.prog 65 #[.string a, .string b] w fun e w' => e = .returned (.bool (a.data.toList == b.data.toList)) ∧ Below w.heap.size w w' := by
  unfold maxLen at ha hb'
  by_cases hne : a.size = b.size
  · have hd : ((a.size : Int) != (b.size : Int)) = false := by simp [hne]
    go_enter Tryz.func65, Tryz.ntmps65
    go_wp2_with fail
    go_loopw [5, 14] (fun d i wr => ∃ (k dd : Nat), k ≤ a.size ∧ i = .int .i64 k ∧ d = .int .u8 (dd : Int) ∧ dd < 256 ∧ (dd = 0 ↔ a.data.toList.take k = b.data.toList.take k) ∧ Below w.heap.size w wr) (fun _ i _ => a.size - (intOf i).toNat)
    case atStart => exact ⟨0, 0, by omega, rfl, rfl, by omega, by simp, Below.refl _ _⟩
    case round =>
      obtain ⟨k, dd, hk, rfl, rfl, hdd, hiff, hbl⟩ := hrel
      by_cases hlt : k < a.size
      · have hd1 : decide ((k : Int) < (a.size : Int)) = true := by simp; omega
        have hlb : k < b.size := by omega
        have hlb' : (k : Int) < (b.size : Int) := by omega
        have HI := Lib.hid hiff
        clear hiff
        go_wp2_with fail
        go_quiet (fail)
        obtain ⟨z, hz, hz1, hz2⟩ : ∃ z : Nat, bits .or .u8 (dd : Int) (bits .xor .u8 (a[k].toNat : Int) (b[k].toNat : Int)) = (z : Int) ∧ z < 256 ∧ (z = 0 ↔ dd = 0 ∧ a[k].toNat = b[k].toNat) := by
          obtain ⟨h0, h1⟩ := bits8_range .or (dd : Int) (bits .xor .u8 (a[k].toNat : Int) (b[k].toNat : Int))
          have h2 := gor_xor_zero dd a[k].toNat b[k].toNat hdd (UInt8.toNat_lt _) (UInt8.toNat_lt _)
          exact ⟨_, (Int.toNat_of_nonneg h0).symm, by omega, by rw [← h2]; omega⟩
        rw [hz]
        have HZ := Lib.hid hz2
        clear hz hz2
        go_wp2_with fail
        go_roundw
        case rel =>
          refine ⟨k + 1, z, by omega, by go_num, rfl, hz1, ?_, below_drewN hbl _⟩
          have e1 : a.data.toList.take (k + 1) = a.data.toList.take k ++ [a[k]] := List.take_succ_eq_append_getElem (by rw [← Lib.size_eq]; exact hlt)
          have e2 : b.data.toList.take (k + 1) = b.data.toList.take k ++ [b[k]] := List.take_succ_eq_append_getElem (by rw [← Lib.size_eq]; exact hlb)
          rw [e1, e2, HZ.out, HI.out, UInt8.toNat_inj]
          constructor
          · rintro ⟨h1, h2⟩; rw [h1, h2]
          · intro h
            have hl : (a.data.toList.take k).length = (b.data.toList.take k).length := by rw [List.length_take, List.length_take, ← Lib.size_eq, ← Lib.size_eq, hne]
            obtain ⟨h1, h2⟩ := List.append_inj h hl
            exact ⟨h1, by simpa using h2⟩
        case measure => simp [intOf]; omega
      · have hd1 : decide ((k : Int) < (a.size : Int)) = false := by simp; omega
        obtain rfl : k = a.size := by omega
        have HR : Hid ((((dd : Nat) : Int) == 0) = (a.data.toList == b.data.toList)) := Lib.hid (by
          rw [List.take_of_length_le (by rw [← Lib.size_eq]; omega), List.take_of_length_le (by rw [← Lib.size_eq]; omega)] at hiff
          by_cases hz : dd = 0
          · rw [hz, hiff.1 hz]; simp
          · have : ¬ a.data.toList = b.data.toList := fun h => hz (hiff.2 h)
            have h1 : (((dd : Nat) : Int) == 0) = false := by simp; omega
            rw [h1]; simpa using this)
        clear hiff
        go_wp2_with fail
        go_ret
        exact ⟨by rw [← HR.out]; rfl, hbl⟩
  · have hd : ((a.size : Int) != (b.size : Int)) = true := by simp; omega
    have HR : Hid ((a.data.toList == b.data.toList) = false) := Lib.hid (by
      have : ¬ a.data.toList = b.data.toList := fun h => hne (by rw [Lib.size_eq, Lib.size_eq, h])
      simpa using this)
    go_enter Tryz.func65, Tryz.ntmps65
    go_wp2_with fail
    go_ret
    exact ⟨by rw [HR.out]; rfl, Below.refl _ _⟩
end

section
open Go.RowKit Go.Sort
set_option maxRecDepth 100000
set_option linter.unusedSimpArgs false
set_option linter.unusedVariables false

set_option maxHeartbeats 1000000 in
theorem gsealKey_any (key nonce beside plain : ByteArray) (w : World) (hk : key.size ≠ 16 ∨ nonce.size ≠ 12) :
    Calls Tryz.prog 41 #[.string key, .string nonce, .string beside, .string plain] w fun e w' => e = .returned (.tuple #[.string ⟨#[]⟩, .int .i64 21]) ∧ w = w' := by
  by_cases h1 : key.size = 16
  · have d1 : ((key.size : Int) != 16) = false := by simp; omega
    have d2 : ((nonce.size : Int) != 12) = true := by simp; omega
    go_enter Tryz.func41, Tryz.ntmps41
    go_wp2_with fail
    go_ret2
    exact ⟨rfl, rfl⟩
  · have d1 : ((key.size : Int) != 16) = true := by simp; omega
    go_enter Tryz.func41, Tryz.ntmps41
    go_wp2_with fail
    go_ret2
    exact ⟨rfl, rfl⟩

set_option maxHeartbeats 1000000 in
theorem gseal_any (key nonce beside plain : ByteArray) (w : World) (hk : key.size = 16) (hn : nonce.size = 12) (h1 : beside.size ≤ 20000) (h2 : plain.size ≤ 20000) (hT : TabQ w) :
    Calls Tryz.prog 41 #[.string key, .string nonce, .string beside, .string plain] w fun e w' => e = .returned (.tuple #[.string ⟨(sealG key.data.toList nonce.data.toList beside.data.toList plain.data.toList).toArray⟩, .int .i64 0]) ∧ Below w.heap.size w w' := by
  have d1 : ((key.size : Int) != 16) = false := by simp; omega
  have d2 : ((nonce.size : Int) != 12) = false := by simp; omega
  have d3 : decide ((1048576 : Int) < (beside.size : Int)) = false := by simp; omega
  have d4 : decide ((1048576 : Int) < (plain.size : Int)) = false := by simp; omega
  have HX := Lib.hid (xored_any key nonce plain w hk hn h2 hT)
  have hsl := strG_length key.data.toList nonce.data.toList plain.data.toList
  rw [← Lib.size_eq] at hsl
  obtain ⟨hid, hhid⟩ : ∃ s : ByteArray, s = ⟨(strG key.data.toList nonce.data.toList plain.data.toList).toArray⟩ := ⟨_, rfl⟩
  have hhs : hid.size = plain.size := by rw [hhid]; exact hsl
  have HTg := Lib.hid (fun W hq => tag_any key nonce beside hid W hk hn (by omega) (by omega) hq)
  have HS : Hid (hid ++ ⟨(tagG key.data.toList nonce.data.toList beside.data.toList hid.data.toList).toArray⟩ = (⟨(sealG key.data.toList nonce.data.toList beside.data.toList plain.data.toList).toArray⟩ : ByteArray)) := Lib.hid (by rw [append_bytes2, hhid]; rfl)
  have htl : (⟨(tagG key.data.toList nonce.data.toList beside.data.toList hid.data.toList).toArray⟩ : ByteArray).size = 16 := tagG_length _ _ _ _
  rw [← hhid] at HX
  have HT := Lib.hid hT
  clear hhid hsl hT
  generalize (⟨(tagG key.data.toList nonce.data.toList beside.data.toList hid.data.toList).toArray⟩ : ByteArray) = tg at *
  have hsz : (hid.size : Int) + (tg.size : Int) ≤ 9223372036854775807 := by omega
  go_enter Tryz.func41, Tryz.ntmps41
  go_wp2_with fail
  refine HX.out.mono ?_
  rintro e W1 ⟨rfl, hb1⟩
  go_wp2_with fail
  refine (HTg.out W1 (HT.out.step hb1)).mono ?_
  rintro e W2 ⟨rfl, hb2⟩
  go_wp2_with fail
  go_ret2
  exact ⟨by rw [← HS.out]; rfl, hb1.trans (hb2.mono hb1.size)⟩

/-- What is opened: nothing where the tag is another one. -/
def tagOk (key nonce beside sealed : List UInt8) : Bool := tagG key nonce beside (sealed.take (sealed.length - 16)) == sealed.drop (sealed.length - 16)
def openG (key nonce beside sealed : List UInt8) : List UInt8 := strG key nonce (sealed.take (sealed.length - 16))

set_option maxHeartbeats 1000000 in
theorem gopenKey_any (key nonce beside sealed : ByteArray) (w : World) (hk : key.size ≠ 16 ∨ nonce.size ≠ 12) :
    Calls Tryz.prog 44 #[.string key, .string nonce, .string beside, .string sealed] w fun e w' => e = .returned (.tuple #[.string ⟨#[]⟩, .int .i64 21]) ∧ w = w' := by
  by_cases h1 : key.size = 16
  · have d1 : ((key.size : Int) != 16) = false := by simp; omega
    have d2 : ((nonce.size : Int) != 12) = true := by simp; omega
    go_enter Tryz.func44, Tryz.ntmps44
    go_wp2_with fail
    go_ret2
    exact ⟨rfl, rfl⟩
  · have d1 : ((key.size : Int) != 16) = true := by simp; omega
    go_enter Tryz.func44, Tryz.ntmps44
    go_wp2_with fail
    go_ret2
    exact ⟨rfl, rfl⟩
set_option maxHeartbeats 1000000 in
theorem gopenShort_any (key nonce beside sealed : ByteArray) (w : World) (hk : key.size = 16) (hn : nonce.size = 12) (hs : sealed.size < 16) :
    Calls Tryz.prog 44 #[.string key, .string nonce, .string beside, .string sealed] w fun e w' => e = .returned (.tuple #[.string ⟨#[]⟩, .int .i64 20]) ∧ w = w' := by
  have d1 : ((key.size : Int) != 16) = false := by simp; omega
  have d2 : ((nonce.size : Int) != 12) = false := by simp; omega
  have d3 : decide ((sealed.size : Int) < 16) = true := by simp; omega
  go_enter Tryz.func44, Tryz.ntmps44
  go_wp2_with fail
  go_ret2
  exact ⟨rfl, rfl⟩

set_option maxHeartbeats 1000000 in
theorem gopen_any (key nonce beside sealed : ByteArray) (w : World) (hk : key.size = 16) (hn : nonce.size = 12) (h1 : beside.size ≤ 20000) (h2 : sealed.size ≤ 20000) (hs : 16 ≤ sealed.size) (hT : TabQ w) :
    Calls Tryz.prog 44 #[.string key, .string nonce, .string beside, .string sealed] w fun e w' => e = .returned (if tagOk key.data.toList nonce.data.toList beside.data.toList sealed.data.toList then .tuple #[.string ⟨(openG key.data.toList nonce.data.toList beside.data.toList sealed.data.toList).toArray⟩, .int .i64 0] else .tuple #[.string ⟨#[]⟩, .int .i64 20]) ∧ Below w.heap.size w w' := by
  have d1 : ((key.size : Int) != 16) = false := by simp; omega
  have d2 : ((nonce.size : Int) != 12) = false := by simp; omega
  have d3 : decide ((sealed.size : Int) < 16) = false := by simp; omega
  have d4 : decide ((1048576 : Int) < (beside.size : Int)) = false := by simp; omega
  have d5 : decide ((1048592 : Int) < (sealed.size : Int)) = false := by simp; omega
  obtain ⟨n, hnn⟩ : ∃ n, n = sealed.size - 16 := ⟨_, rfl⟩
  have e1 : IntKind.i64.wrap ((sealed.size : Int) - 16) = (sealed.size : Int) - 16 := IntWalk.i64_in _ (by omega)
  have e2 : (sealed.size : Int) - 16 = (n : Int) := by omega
  have e3 : (n : Int) ≤ (sealed.size : Int) := by omega
  have ht1 : (sealed.extract 0 n).data.toList = sealed.data.toList.take (sealed.data.toList.length - 16) := by rw [Lib.extract_data, List.drop_zero, ← Lib.size_eq, hnn]; rfl
  have ht2 : (sealed.extract n sealed.size).data.toList = sealed.data.toList.drop (sealed.data.toList.length - 16) := by rw [Lib.extract_data, List.take_of_length_le (by rw [List.length_drop, ← Lib.size_eq]; exact Nat.le_refl _), ← Lib.size_eq, hnn]
  have hs1 : (sealed.extract 0 n).size = n := by rw [ByteArray.size_extract]; omega
  have hs2 : (sealed.extract n sealed.size).size = 16 := by rw [ByteArray.size_extract]; omega
  have HTg := Lib.hid (fun W hq => tag_any key nonce beside (sealed.extract 0 n) W hk hn (by omega) (by omega) hq)
  have HX := Lib.hid (fun W hq => xored_any key nonce (sealed.extract 0 n) W hk hn (by omega) hq)
  have htl : (⟨(tagG key.data.toList nonce.data.toList beside.data.toList (sealed.extract 0 n).data.toList).toArray⟩ : ByteArray).size = 16 := tagG_length _ _ _ _
  have HSm := Lib.hid (fun W => gsame_any ⟨(tagG key.data.toList nonce.data.toList beside.data.toList (sealed.extract 0 n).data.toList).toArray⟩ (sealed.extract n sealed.size) W (by rw [htl]; unfold maxLen; omega) (by rw [hs2]; unfold maxLen; omega))
  have HOk : Hid (((⟨(tagG key.data.toList nonce.data.toList beside.data.toList (sealed.extract 0 n).data.toList).toArray⟩ : ByteArray).data.toList == (sealed.extract n sealed.size).data.toList) = tagOk key.data.toList nonce.data.toList beside.data.toList sealed.data.toList) := Lib.hid (by rw [ht1, ht2]; rfl)
  have HOp : Hid ((⟨(strG key.data.toList nonce.data.toList (sealed.extract 0 n).data.toList).toArray⟩ : ByteArray) = ⟨(openG key.data.toList nonce.data.toList beside.data.toList sealed.data.toList).toArray⟩) := Lib.hid (by rw [ht1]; rfl)
  rw [HOk.out] at HSm
  rw [HOp.out] at HX
  have HT := Lib.hid hT
  clear HOk HOp ht1 ht2 hs1 hs2 htl hT hnn
  generalize (⟨(tagG key.data.toList nonce.data.toList beside.data.toList (sealed.extract 0 n).data.toList).toArray⟩ : ByteArray) = tg at *
  generalize hok : tagOk key.data.toList nonce.data.toList beside.data.toList sealed.data.toList = ok at *
  generalize (⟨(openG key.data.toList nonce.data.toList beside.data.toList sealed.data.toList).toArray⟩ : ByteArray) = op at *
  go_enter Tryz.func44, Tryz.ntmps44
  go_wp2_with fail
  refine wp_region_reads (by kernel_rfl) (by kernel_rfl) ?_
  repeat (first | go_big_quiet_step ((first | with_reducible exact Calls.regrown_of (HTg.out _ (HT.out.step (below_regrown _ _ _))) | with_reducible exact Calls.regrown_of (HSm.out _))) | quiet_step ((first | with_reducible exact Calls.regrown_of (HTg.out _ (HT.out.step (below_regrown _ _ _))) | with_reducible exact Calls.regrown_of (HSm.out _))))
  refine wpQuiet_nil ?_
  intro W4 hb4
  have HT4 := Lib.hid (HT.out.step hb4)
  clear HTg HSm
  cases ok with
  | false =>
    go_wp2_with fail
    go_ret2
    exact ⟨rfl, hb4⟩
  | true =>
    go_wp2_with fail
    refine (HX.out W4 HT4.out).mono ?_
    rintro e W5 ⟨rfl, hb5⟩
    go_wp2_with fail
    go_ret2
    exact ⟨rfl, hb4.trans (hb5.mono hb4.size)⟩
end
end Go.Proofs.YtffnafikegakcaaGreatDoor
