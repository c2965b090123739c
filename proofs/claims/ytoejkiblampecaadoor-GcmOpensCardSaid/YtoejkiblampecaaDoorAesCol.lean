/- The program's columns: upward, mixture, load, store, column. -/
import Derived.Test.YtoejkiblampecaaDoorAesFns
import Derived.Test.YtoejkiblampecaaDoorOwn
import Derived.Test.YtoejkiblampecaaDoorArr
namespace Go.Proofs.YtoejkiblampecaaDoor
open Go.RowKit Go.Sort
set_option maxRecDepth 100000
set_option linter.unusedSimpArgs false
set_option linter.unusedVariables false

/-- Four bytes moved up by so many, and around. -/
def upW (a n : Nat) : Nat := (a * 2 ^ (32 - 8 * n)) % 4294967296 ||| a / 2 ^ (8 * n)
theorem lane_up (a n i : Nat) (ha : a < 4294967296) (hn : 0 < n) (hn4 : n < 4) (hi : i < 4) : lane i (upW a n) = lane ((i + n) % 4) a := by
  apply Nat.eq_of_testBit_eq
  intro j
  have e1 : (a * 2 ^ (32 - 8 * n)) % 4294967296 = (a <<< (32 - 8 * n)) % 2 ^ 32 := by rw [Nat.shiftLeft_eq]
  have e2 : a / 2 ^ (8 * n) = a >>> (8 * n) := by rw [Nat.shiftRight_eq_div_pow]
  rw [upW, e1, e2]
  simp only [lane_bit, Nat.testBit_or, Nat.testBit_mod_two_pow, Nat.testBit_shiftLeft, Nat.testBit_shiftRight]
  by_cases hj : j < 8
  · by_cases hc : i + n < 4
    · have h1 : ¬ (8 * i + j ≥ 32 - 8 * n) := by omega
      rw [Nat.mod_eq_of_lt hc]
      simp [hj, h1, show 8 * n + (8 * i + j) = 8 * (i + n) + j by omega]
    · have h1 : (8 * i + j ≥ 32 - 8 * n) := by omega
      have h2 : a.testBit (8 * n + (8 * i + j)) = false := Nat.testBit_lt_two_pow (Nat.lt_of_lt_of_le ha (show 2 ^ 32 ≤ 2 ^ (8 * n + (8 * i + j)) from Nat.pow_le_pow_right (by decide) (by omega)))
      rw [h2, show (i + n) % 4 = i + n - 4 by omega]
      simp [hj, h1, show 8 * i + j < 32 by omega, show 8 * i + j - (32 - 8 * n) = 8 * (i + n - 4) + j by omega]
  · simp [hj]
theorem upW_lt (a n : Nat) (ha : a < 4294967296) : upW a n < 4294967296 := Nat.or_lt_two_pow (n := 32) (Nat.mod_lt _ (by decide)) (Nat.lt_of_le_of_lt (Nat.div_le_self _ _) ha)

theorem aroll_any (v n : Int) (w : World) (h : n = -8 ∨ n = -16 ∨ n = -24) :
    Calls Tryd.prog 66 #[.int .u32 v, .int .i64 n] w fun e w' => e = .returned (.int .u32 (bits .or .u32 (IntKind.u32.wrap (v * 2 ^ (32 + n).toNat)) (v / 2 ^ (-n).toNat))) ∧ w = w' := by
  have k1 : bits .and .u64 (IntKind.u64.wrap (-8)) 31 = 24 := by decide +kernel
  have k2 : bits .and .u64 (IntKind.u64.wrap (-16)) 31 = 16 := by decide +kernel
  have k3 : bits .and .u64 (IntKind.u64.wrap (-24)) 31 = 8 := by decide +kernel
  rcases h with rfl | rfl | rfl <;>
  · go_enter Tryd.func66, Tryd.ntmps66
    go_wp2
    go_ret
    exact ⟨by simp [IntKind.wrap_u32'], rfl⟩

theorem upward_any (a n : Nat) (w : World) (ha : a < 4294967296) (hn : 0 < n) (hn4 : n < 4) :
    Calls Tryd.prog 60 #[.int .u64 (a : Int), .int .i64 (n : Int)] w fun e w' => e = .returned (.int .u64 ((upW a n : Nat) : Int)) ∧ w = w' := by
  have hv : ∀ m : Int, m = -8 * (n : Int) → bits .or .u32 (IntKind.u32.wrap ((a : Int) * 2 ^ (32 + m).toNat)) ((a : Int) / 2 ^ (-m).toNat) = ((upW a n : Nat) : Int) := by
    rintro m rfl
    rw [show (32 + -8 * (n : Int)).toNat = 32 - 8 * n by omega, show (-(-8 * (n : Int))).toNat = 8 * n by omega]
    have h1 : IntKind.u32.wrap ((a : Int) * 2 ^ (32 - 8 * n)) = (((a * 2 ^ (32 - 8 * n)) % 4294967296 : Nat) : Int) := by rw [IntKind.wrap_u32']; simp
    have h2 : (a : Int) / 2 ^ (8 * n) = ((a / 2 ^ (8 * n) : Nat) : Int) := by simp
    rw [h1, h2]
    exact u32_or_nat _ _ (Nat.mod_lt _ (by decide)) (Nat.lt_of_le_of_lt (Nat.div_le_self _ _) ha)
  have hc : ∀ (m : Int), m = -8 * (n : Int) → (m = -8 ∨ m = -16 ∨ m = -24) := by intro m hm; omega
  have HC := Lib.hid (fun W => aroll_any (a : Int) (-8 * (n : Int)) W (hc _ rfl))
  rw [hv _ rfl] at HC
  have e1 : (a : Int) % 4294967296 = (a : Int) := by omega
  have e2 : ((upW a n : Nat) : Int) % 18446744073709551616 = ((upW a n : Nat) : Int) := by have := upW_lt a n ha; omega
  clear hv hc
  generalize upW a n = r at *
  go_enter Tryd.func60, Tryd.ntmps60
  go_wp2_with fail
  refine (HC.out w).mono ?_
  rintro e W1 ⟨rfl, rfl⟩
  go_wp2_with fail
  go_ret
  exact ⟨by first | rfl | (rw [← e2]; rfl), rfl⟩

/-- What replaces a column. -/
def mixW (a : Nat) : Nat := dblW (a ^^^ upW a 1) ^^^ upW a 1 ^^^ upW a 2 ^^^ upW a 3
theorem lane_mix (a i : Nat) (ha : a < 4294967296) (hi : i < 4) : lane i (mixW a) = dbl1 (lane i a ^^^ lane ((i + 1) % 4) a) ^^^ lane ((i + 1) % 4) a ^^^ lane ((i + 2) % 4) a ^^^ lane ((i + 3) % 4) a := by
  simp only [mixW, lane_xor, lane_dbl _ i (show i < 8 by omega), lane_up a 1 i ha (by omega) (by omega) hi, lane_up a 2 i ha (by omega) (by omega) hi, lane_up a 3 i ha (by omega) (by omega) hi]
theorem mix_walk (d b c e : Nat) (hd : d < 18446744073709551616) (hb : b < 18446744073709551616) (hc : c < 18446744073709551616) (he : e < 18446744073709551616) :
    bits .xor .u64 (bits .xor .u64 (bits .xor .u64 (d : Int) (b : Int)) (c : Int)) (e : Int) = ((d ^^^ b ^^^ c ^^^ e : Nat) : Int) := by
  rw [u64_xor_nat d b hd hb, u64_xor_nat _ c (xor_lt64 hd hb) hc, u64_xor_nat _ e (xor_lt64 (xor_lt64 hd hb) hc) he]

set_option maxHeartbeats 1000000 in
theorem mixture_any (a : Nat) (w : World) (ha : a < 4294967296) :
    Calls Tryd.prog 65 #[.int .u64 (a : Int)] w fun e w' => e = .returned (.int .u64 ((mixW a : Nat) : Int)) ∧ w = w' := by
  have HM : Hid (mixW a = dblW (a ^^^ upW a 1) ^^^ upW a 1 ^^^ upW a 2 ^^^ upW a 3) := Lib.hid rfl
  have l1 := upW_lt a 1 ha; have l2 := upW_lt a 2 ha; have l3 := upW_lt a 3 ha
  have U1 := Lib.hid (fun W => upward_any a 1 W ha (by omega) (by omega))
  have U2 := Lib.hid (fun W => upward_any a 2 W ha (by omega) (by omega))
  have U3 := Lib.hid (fun W => upward_any a 3 W ha (by omega) (by omega))
  generalize upW a 1 = b at *
  generalize upW a 2 = c at *
  generalize upW a 3 = d at *
  have hx : a ^^^ b < 18446744073709551616 := xor_lt64 (by omega) (by omega)
  have HX := Lib.hid (u64_xor_nat a b (by omega) (by omega))
  have HD := Lib.hid (fun W => doubled_any (a ^^^ b) W hx)
  have HW := Lib.hid (mix_walk (dblW (a ^^^ b)) b c d (dblW_lt _) (by omega) (by omega) (by omega))
  generalize dblW (a ^^^ b) = z at *
  generalize a ^^^ b = x at *
  go_enter Tryd.func65, Tryd.ntmps65
  go_wp2_with fail
  refine (U1.out w).mono ?_
  rintro e W1 ⟨rfl, rfl⟩
  go_wp2_with fail
  refine (U2.out w).mono ?_
  rintro e W1 ⟨rfl, rfl⟩
  go_wp2_with fail
  refine (U3.out w).mono ?_
  rintro e W1 ⟨rfl, rfl⟩
  go_wp2_with fail
  rw [HX.out]
  refine (HD.out w).mono ?_
  rintro e W1 ⟨rfl, rfl⟩
  go_wp2_with fail
  go_ret
  exact ⟨by rw [HM.out, ← HW.out]; rfl, rfl⟩

/-- Bytes of memory as one number. -/
def pkB (l : List UInt8) : Nat := pk (l.map UInt8.toNat)
theorem pk_snoc (x : Nat) : ∀ l : List Nat, pk (l ++ [x]) = pk l + 256 ^ l.length * x
  | [] => by simp [pk]
  | b :: r => by
    rw [List.cons_append, pk, pk, pk_snoc x r, List.length_cons, Nat.pow_succ, Nat.mul_add, Nat.add_assoc]
    congr 2
    rw [← Nat.mul_assoc, Nat.mul_comm 256 (256 ^ r.length)]
theorem pkB_in (l : List UInt8) : ∀ x ∈ l.map UInt8.toNat, x < 256 := by
  intro x hx
  simp only [List.mem_map] at hx
  obtain ⟨y, _, rfl⟩ := hx
  exact UInt8.toNat_lt y
theorem pkB_lt (l : List UInt8) : pkB l < 256 ^ l.length := by have := pk_lt _ (pkB_in l); rwa [List.length_map] at this
theorem pkB_lane (l : List UInt8) (i : Nat) : lane i (pkB l) = (l.getD i 0).toNat := by
  rw [pkB, pk_lane _ _ (pkB_in l)]
  simp only [List.getD_eq_getElem?_getD, List.getElem?_map]
  cases l[i]? <;> rfl
theorem pow_lt8 (k : Nat) (h : k ≤ 8) : 256 ^ k ≤ 18446744073709551616 := by
  have : (256 : Nat) ^ k ≤ 256 ^ 8 := Nat.pow_le_pow_right (by decide) h
  simpa using this
theorem load_walk (l : List UInt8) (x : UInt8) (h : l.length < 8) : bits .or .u64 ((pkB l : Nat) : Int) (IntKind.u64.wrap ((x.toNat : Int) * 2 ^ (8 * l.length))) = ((pkB (l ++ [x]) : Nat) : Int) := by
  have h1 := pkB_lt l
  have h2 := pow_lt8 l.length (by omega)
  have hx := UInt8.toNat_lt x
  have h3 : pkB (l ++ [x]) = pkB l + 256 ^ l.length * x.toNat := by rw [pkB, List.map_append]; exact (pk_snoc _ _).trans (by rw [List.length_map]; rfl)
  have h4 := pkB_lt (l ++ [x])
  have h5 := pow_lt8 (l ++ [x]).length (by simp; omega)
  have e : (2 : Nat) ^ (8 * l.length) = 256 ^ l.length := by rw [Nat.pow_mul]
  have hm : x.toNat * 2 ^ (8 * l.length) < 18446744073709551616 := by rw [e, Nat.mul_comm]; omega
  have hw : IntKind.u64.wrap ((x.toNat : Int) * 2 ^ (8 * l.length)) = ((x.toNat * 2 ^ (8 * l.length) : Nat) : Int) := by
    rw [IntKind.wrap_u64, show ((x.toNat : Int) * 2 ^ (8 * l.length)) = ((x.toNat * 2 ^ (8 * l.length) : Nat) : Int) by simp]
    omega
  rw [hw, u64_or_nat _ _ (by omega) hm, Nat.or_comm, nat_join (8 * l.length) _ _ (by simp) (by omega), h3, e, Nat.mul_comm x.toNat, Nat.add_comm]

set_option maxHeartbeats 1000000 in
theorem aload_any (l : List UInt8) (b off n cap : Nat) (w : World) (hn : l.length = n) (h8 : n ≤ 8) (hc : ∀ j x, l[j]? = some x → w.cell? ⟨b, off + j, none⟩ = some (.int .u8 (x.toNat : Int))) :
    Calls Tryd.prog 61 #[.slice (some ⟨b, off, none⟩) n cap] w fun e w' => e = .returned (.int .u64 ((pkB l : Nat) : Int)) ∧ w = w' := by
  have HC := Lib.hid hc
  have HN := Lib.hid hn
  clear hc hn
  go_enter Tryd.func61, Tryd.ntmps61
  go_wp2_with fail
  go_loopw [3, 8] (fun ov i wr => ∃ k : Nat, k ≤ n ∧ i = .int .i64 (k : Int) ∧ ov = .int .u64 ((pkB (l.take k) : Nat) : Int) ∧ w = wr) (fun _ i _ => n - (intOf i).toNat)
  case atStart => exact ⟨0, by omega, rfl, rfl, rfl⟩
  case round =>
    obtain ⟨k, hk, rfl, rfl, rfl⟩ := hrel
    by_cases hlt : k < n
    · have hd : decide ((k : Int) < (n : Int)) = true := by simp; omega
      have hkl : k < l.length := by rw [HN.out]; exact hlt
      have hx := HC.out k l[k] (List.getElem?_eq_getElem hkl)
      have hlen : (l.take k).length = k := by simp; omega
      have HW := Lib.hid (load_walk (l.take k) l[k] (by omega))
      rw [hlen, show l.take k ++ [l[k]] = l.take (k + 1) from (List.take_succ_eq_append_getElem hkl).symm] at HW
      have hb := UInt8.toNat_lt l[k]
      generalize pkB (l.take k) = o at *
      generalize l[k].toNat = x at *
      have e1 : (x : Int) % 18446744073709551616 = (x : Int) := by omega
      have e8 : (8 * (k : Int)).toNat = 8 * k := by omega
      have n8 : (0 : Int) ≤ 8 * (k : Int) := by omega
      go_wp2_with fail
      go_roundw
      case rel => exact ⟨k + 1, by omega, by go_num, by rw [← HW.out], trivial⟩
      case measure => simp [intOf]; omega
    · have hd : decide ((k : Int) < (n : Int)) = false := by simp; omega
      obtain rfl : k = n := by omega
      rw [show l.take k = l from List.take_of_length_le (by rw [HN.out]; exact Nat.le_refl _)]
      go_wp2_with fail
      go_ret
      exact ⟨rfl, rfl⟩

theorem wbyte_lane (w k : Nat) : wbyte ((w : Nat) : Int) (8 * k) = UInt8.ofNat (lane k w) := by
  rw [wbyte, lane, Nat.shiftRight_eq_div_pow]
  congr 1

set_option maxHeartbeats 1000000 in
theorem astore_any (l : List UInt8) (b off n cap : Nat) (T : TypeId) (v : Int) (w : World) (hg : w.heap[b]? = some (.cells (bcells l) T)) (hn : n ≤ 8) (ho : off + n ≤ l.length) :
    Calls Tryd.prog 64 #[.slice (some ⟨b, off, none⟩) n cap, .int .u64 v] w fun e w' => e = .returned (.tuple #[]) ∧ w'.heap[b]? = some (.cells (bcells (putA l off v n)) T) ∧ But b w w' := by
  have HG := Lib.hid hg
  clear hg
  go_enter Tryd.func64, Tryd.ntmps64
  go_wp2_with fail
  go_loopw [7] (fun i wr => ∃ k : Nat, k ≤ n ∧ i = .int .i64 (k : Int) ∧ wr.heap[b]? = some (.cells (bcells (putA l off v k)) T) ∧ But b w wr) (fun i _ => n - (intOf i).toNat)
  case atStart => exact ⟨0, by omega, rfl, HG.out, But.refl _ _⟩
  case round =>
    clear HG
    obtain ⟨k, hk, rfl, hg, hb⟩ := hrel
    have HG := Lib.hid hg
    clear hg
    by_cases hlt : k < n
    · have hd : decide ((k : Int) < (n : Int)) = true := by simp; omega
      have hj : off + k < (putA l off v k).length := by rw [putA_length]; omega
      have hx : wr.cell? ⟨b, off + k, none⟩ = some (.int .u8 ((putA l off v k)[off + k].toNat : Int)) := by rw [cell_of_row wr _ _ _ _ _ HG.out]; exact bcells_get _ _ _ (List.getElem?_eq_getElem hj)
      have hf : wr.frozen? ⟨b, off + k, none⟩ = false := frozen_of_row wr _ _ _ _ HG.out
      generalize ((putA l off v k)[off + k].toNat : Int) = x at hx
      have HS := Lib.hid (show ∀ x : Int, x = v / 2 ^ (8 * k) % 256 → (wr.setCell ⟨b, off + k, none⟩ (.int .u8 x)).heap[b]? = some (.cells (bcells (putA l off v (k + 1))) T) from by
        rintro x rfl
        rw [← wbyte_toNat v (8 * k), putA, ← bcells_set]
        exact Go.heap_setCell_same _ _ _ _ _ _ HG.out)
      have e8 : (8 * (k : Int)).toNat = 8 * k := by omega
      have n8 : (0 : Int) ≤ 8 * (k : Int) := by omega
      go_wp2_with fail
      go_roundw
      case rel => exact ⟨k + 1, by omega, by go_num, HS.out _ (by simp), hb.trans (But.setCell _ _ _ _ rfl)⟩
      case measure => simp [intOf]; omega
    · have hd : decide ((k : Int) < (n : Int)) = false := by simp; omega
      obtain rfl : k = n := by omega
      go_wp2_with fail
      go_end0
      exact ⟨rfl, HG.out, hb⟩

set_option maxHeartbeats 1000000 in
theorem column_any (b c : Nat) (cs : Array Value) (T : TypeId) (w : World) (hg : w.heap[b]? = some (.cells cs T)) (hc : c < 4) :
    Calls Tryd.prog 62 #[.pointer (some ⟨b, 0, none⟩), .int .i64 (c : Int)] w fun e w' => e = .returned (.slice (some ⟨b, 4 * c, none⟩) 4 (16 - 4 * c)) ∧ w = w' := by
  have sl := arr_sliced_at 68 16 b (4 * c) (4 * c + 4) (by kernel_rfl) (by kernel_rfl) (by kernel_rfl) (by omega) (by omega) (by omega) (4 * (c : Int)) (4 * (c : Int) + 4) (by omega) (by omega)
  rw [show 4 * c + 4 - 4 * c = 4 by omega] at sl
  have e1 : IntKind.i64.wrap (4 * (c : Int)) = 4 * (c : Int) := IntWalk.i64_in _ (by omega)
  have e2 : IntKind.i64.wrap (4 * (c : Int) + 4) = 4 * (c : Int) + 4 := IntWalk.i64_in _ (by omega)
  go_enter Tryd.func62, Tryd.ntmps62
  go_wp2_with fail
  go_ret
  exact ⟨rfl, rfl⟩
end Go.Proofs.YtoejkiblampecaaDoor
