/- The reference's Times, stirred, Swap; The reference's table; The reference's with: a state exclusive or a key; The reference's round keys; The reference's Under: a block under a key that is made ready; The reference's Ready, Block, Keys. -/
import Derived.Test.YtaodbhhdjehnnaaDoorAesA
import Derived.Test.YtaodbhhdjehnnaaDoorBase
import Derived.BigQuiet
import Derived.Test.YtaodbhhdjehnnaaDoorAesP
namespace Go.Proofs.YtaodbhhdjehnnaaDoor
section
open Go.RowKit Go.Sort
set_option maxRecDepth 100000
set_option linter.unusedSimpArgs false
set_option linter.unusedVariables false

theorem ax_ofInt (a : Nat) (ha : a < 2 ^ 62) : (BitVec.ofInt 64 (a : Int)).toNat = a := by rw [BitVec.toNat_ofInt]; omega
theorem ax_xor (a b : Nat) (ha : a < 2 ^ 62) (hb : b < 2 ^ 62) : bits .xor .i64 (a : Int) (b : Int) = ((a ^^^ b : Nat) : Int) := by
  have hx : a ^^^ b < 2 ^ 62 := Nat.xor_lt_two_pow ha hb
  show IntKind.i64.wrap ((BitVec.ofInt 64 (a : Int) ^^^ BitVec.ofInt 64 (b : Int)).toNat : Int) = _
  rw [BitVec.toNat_xor, ax_ofInt a ha, ax_ofInt b hb, IntKind.wrap_i64]
  omega
theorem ax_or (a b : Nat) (ha : a < 2 ^ 62) (hb : b < 2 ^ 62) : bits .or .i64 (a : Int) (b : Int) = ((a ||| b : Nat) : Int) := by
  have hx : a ||| b < 2 ^ 62 := Nat.or_lt_two_pow ha hb
  show IntKind.i64.wrap ((BitVec.ofInt 64 (a : Int) ||| BitVec.ofInt 64 (b : Int)).toNat : Int) = _
  rw [BitVec.toNat_or, ax_ofInt a ha, ax_ofInt b hb, IntKind.wrap_i64]
  omega
theorem ax_and (a b : Nat) (ha : a < 2 ^ 62) (hb : b < 2 ^ 62) : bits .and .i64 (a : Int) (b : Int) = ((a &&& b : Nat) : Int) := by
  have hx : a &&& b < 2 ^ 62 := Nat.and_lt_two_pow _ hb
  show IntKind.i64.wrap ((BitVec.ofInt 64 (a : Int) &&& BitVec.ofInt 64 (b : Int)).toNat : Int) = _
  rw [BitVec.toNat_and, ax_ofInt a ha, ax_ofInt b hb, IntKind.wrap_i64]
  omega
theorem ax_bit (b k : Nat) (hb : b < 256) : bits .and .i64 ((b : Int) / 2 ^ k) 1 = ((b / 2 ^ k % 2 : Nat) : Int) := by
  have h := ax_and (b / 2 ^ k) 1 (by have := Nat.div_le_self b (2 ^ k); omega) (by decide)
  have e : ((b / 2 ^ k : Nat) : Int) = (b : Int) / 2 ^ k := by simp
  rw [e] at h
  rw [show (1 : Int) = ((1 : Nat) : Int) from rfl, h, Nat.and_one_is_mod]


theorem stS_lt (v : Nat) (hv : v < 256) : ∀ k, stS v k < 256
  | 0 => by simp [stS]
  | k + 1 => xor_lt8 (stS_lt v hv k) (Nat.lt_of_le_of_lt Nat.and_le_right (by decide))
theorem stir_walk (o v k : Nat) (ho : o < 256) (hv : v < 256) (hk : k < 5) : bits .xor .i64 (o : Int) (bits .and .i64 (bits .or .i64 ((v : Int) * 2 ^ k) ((v : Int) / 2 ^ (8 - k))) 255) = ((o ^^^ ((v * 2 ^ k ||| v / 2 ^ (8 - k)) &&& 255) : Nat) : Int) := by
  have hp : 2 ^ k ≤ 16 := by
    have : 2 ^ k ≤ 2 ^ 4 := Nat.pow_le_pow_right (by decide) (by omega)
    simpa using this
  have h1 : v * 2 ^ k < 2 ^ 62 := by
    have : v * 2 ^ k ≤ 255 * 16 := Nat.mul_le_mul (by omega) hp
    omega
  have h2 : v / 2 ^ (8 - k) < 2 ^ 62 := by have := Nat.div_le_self v (2 ^ (8 - k)); omega
  have e1 : (v : Int) * 2 ^ k = ((v * 2 ^ k : Nat) : Int) := by simp
  have e2 : (v : Int) / 2 ^ (8 - k) = ((v / 2 ^ (8 - k) : Nat) : Int) := by simp
  have h3 : v * 2 ^ k ||| v / 2 ^ (8 - k) < 2 ^ 62 := Nat.or_lt_two_pow h1 h2
  rw [e1, e2, ax_or _ _ h1 h2, show (255 : Int) = ((255 : Nat) : Int) from rfl, ax_and _ _ h3 (by decide), ax_xor _ _ (by omega) (Nat.lt_of_le_of_lt Nat.and_le_right (by decide))]


theorem ivS_lt (b : Nat) : ∀ k, k ≤ 255 → ivS b k < 256
  | 0, _ => by simp [ivS]
  | k + 1, h => by
    rw [ivS]
    split
    · omega
    · exact ivS_lt b k (by omega)
theorem iv_sb (b : Nat) (h : b < 256) : stN (ivS b 255) = sbT b := by simpa using List.all_eq_true.1 iv_all b (List.mem_range.2 h)
end

section
open Go.RowKit Go.Sort
set_option maxRecDepth 100000
set_option linter.unusedSimpArgs false
set_option linter.unusedVariables false

theorem ainfo_int : (Tryd.prog.info? 3).map (fun i => (i.zero, i.size, i.bytes)) = some (some (.int .i64 0), 1, 8) := by kernel_rfl
/-- The powers of 3, as cells. -/
def p3V (n : Nat) : List Value := (List.range n).map fun i => Value.int .i64 ((p3 i : Nat) : Int)
theorem p3V_length (n : Nat) : (p3V n).length = n := by simp [p3V]
theorem p3V_snoc (n : Nat) : p3V n ++ [.int .i64 ((p3 n : Nat) : Int)] = p3V (n + 1) := by simp [p3V, List.range_succ]
theorem p3V_get (n j : Nat) (h : j < n) : (p3V n)[j]? = some (.int .i64 ((p3 j : Nat) : Int)) := by simp [p3V, h]
theorem p3_lt (k : Nat) (h : k < 255) : p3 k < 256 := by simpa using List.all_eq_true.1 p3_all k (List.mem_range.2 h)
theorem tabS_length : ∀ k, (tabS k).length = 256
  | 0 => by rw [tabS, List.length_set, List.length_replicate]
  | k + 1 => by rw [tabS, List.length_set, tabS_length k]
theorem stN_lt (v : Nat) (h : v < 256) : stN v < 256 := stS_lt v h 5
def zeros256 : Array Value := bcells (List.replicate 256 0)
theorem make256 (W : World) : (Instr.makeSlice 32 (.int .i64 256) (.int .i64 256)).run Tryd.prog W = .ok (.slice (some ⟨W.heap.size, 0, none⟩) 256 256) (W.alloc (.cells zeros256 5)) := by
  obtain ⟨i0, hi, hz0, hz1, hz2⟩ := info_parts info_u8
  have h := run_make (P := Tryd.prog) W 32 5 i0 (.int .u8 0) Tryd.underlying32 hi hz0 .i64 .i64 256 256 (by omega) (by omega) (by rw [hz2]; omega) (by omega)
  have e : madeCells (Value.int .u8 0).cells ((256 : Int).toNat * i0.size) = zeros256 := by rw [hz1, made_zero]; rfl
  rw [e] at h
  exact h

end

section
open Go.RowKit Go.Sort
set_option maxRecDepth 100000
set_option linter.unusedSimpArgs false
set_option linter.unusedVariables false

theorem au8x (x y : UInt8) : bits .xor .u8 (x.toNat : Int) (y.toNat : Int) = ((x ^^^ y).toNat : Int) := by
  rw [u8_xor_nat _ _ (UInt8.toNat_lt x) (UInt8.toNat_lt y), UInt8.toNat_xor]
/-- Bytes at the beginning of a block. -/
def BytesAt (W : World) (g n : Nat) (l : List UInt8) : Prop := ∀ j, j < n → W.cell? ⟨g, j, none⟩ = some (.int .u8 ((l.getD j 0).toNat : Int))
theorem BytesAt.step {W W' : World} {g n : Nat} {l : List UInt8} (h : BytesAt W g n l) (hb : Below W.heap.size W W') : BytesAt W' g n l := fun j hj => (hb.cell (p := ⟨g, j, none⟩) (block_lt_of_cell (h j hj))).trans (h j hj)
theorem BytesAt.below {W W' : World} {g n B : Nat} {l : List UInt8} (h : BytesAt W g n l) (hb : Below B W W') (hg : g < B) : BytesAt W' g n l := fun j hj => (hb.cell (p := ⟨g, j, none⟩) hg).trans (h j hj)
theorem BytesAt.of_row {W : World} {g : Nat} {l : List UInt8} {T : TypeId} {fr : Nat × Nat} (h : W.heap[g]? = some (.cells (bcells l) T fr)) : BytesAt W g l.length l := fun j hj => bcell_at h j hj
theorem bytesAt_of_own {W : World} {base g cap : Nat} {l : List UInt8} (h : OwnS W base g cap (Lib.byteCells l)) : BytesAt W g l.length l := fun j hj => by
  refine h.cells j _ ?_
  simp [Lib.byteCells, List.getD_eq_getElem?_getD, hj]
/-- A slice of its own with a byte in it. -/
theorem own_bytes {W : World} {base n cap : Nat} {ao : Option Addr} {l : List UInt8} (h : Own W base (.slice ao n cap) (Lib.byteCells l)) (hl : l.length = n) (hp : 0 < n) : ∃ g, ao = some ⟨g, 0, none⟩ ∧ BytesAt W g n l := by
  obtain ⟨g, c, hv, ho, _⟩ := h.some (by rw [Lib.byteCells_length]; omega)
  injection hv with h1 _ _
  exact ⟨g, h1, by rw [← hl]; exact bytesAt_of_own ho⟩
theorem bcs_length (l : List UInt8) (n : Nat) (h : l.length = n) : (Lib.byteCells l).length = n := by rw [Lib.byteCells_length, h]
theorem bcs_snoc (l : List UInt8) (x : UInt8) : Lib.byteCells l ++ [.int .u8 (x.toNat : Int)] = Lib.byteCells (l ++ [x]) := by simp [Lib.byteCells]
/-- Bytes made one by one. -/
def genL (f : Nat → UInt8) (m : Nat) : List UInt8 := (List.range m).map f
theorem genL_length (f : Nat → UInt8) (m : Nat) : (genL f m).length = m := by simp [genL]
theorem genL_succ (f : Nat → UInt8) (m : Nat) : genL f m ++ [f m] = genL f (m + 1) := by simp [genL, List.range_succ]
theorem byte_at (s : ByteArray) (j : Nat) (h : j < s.size) : s[j] = s.data.toList.getD j 0 := by
  have h' : j < s.data.toList.length := by rw [← Lib.size_eq]; exact h
  rw [List.getD_eq_getElem?_getD, List.getElem?_eq_getElem h']
  rfl
theorem index_text (s : ByteArray) (j : Nat) (h : j < s.size) (w : World) : (Instr.index 9 (.string s) (.int .i64 (j : Int))).run Tryd.prog w = .ok (.int .u8 ((s.data.toList.getD j 0).toNat : Int)) w := by
  rw [run_index_string (P := Tryd.prog) w 9 s .i64 (j : Int) Tryd.underlying9]
  simp [h, byte_at]

end

section
open Go.RowKit Go.Sort
set_option maxRecDepth 100000
set_option linter.unusedSimpArgs false
set_option linter.unusedVariables false

/-- So many bytes of the round keys, one behind the other. -/
def kfl (key : List UInt8) (n : Nat) : List UInt8 := genL (fun i => (rk key (i / 16)).getD (i % 16) 0) n
theorem kfl_length (key : List UInt8) (n : Nat) : (kfl key n).length = n := genL_length _ _
theorem kfl_get (key : List UInt8) (n i : Nat) (h : i < n) : (kfl key n).getD i 0 = (rk key (i / 16)).getD (i % 16) 0 := by rw [kfl, genL, range_getD _ _ _ h]
theorem kfl_first (key : List UInt8) (h : key.length = 16) : kfl key 16 = key := bytes_ext (kfl_length _ _) h fun i hi => by
  rw [kfl_get _ _ _ hi, show i / 16 = 0 by omega, show i % 16 = i by omega]; rfl
theorem kfl_snoc (key : List UInt8) (n : Nat) : kfl key n ++ [(rk key (n / 16)).getD (n % 16) 0] = kfl key (n + 1) := genL_succ _ _
/-- Byte r of what goes into the word i. -/
def lastB (key : List UInt8) (i r : Nat) : UInt8 := nbPre (rk key (i / 4 - 1)) (pw (i / 4 - 1)) r (i % 4)
theorem rk_byte (key : List UInt8) (i r : Nat) (hi : 4 ≤ i) (hr : r < 4) : (rk key ((4 * i + r) / 16)).getD ((4 * i + r) % 16) 0 = (rk key ((4 * i - 16 + r) / 16)).getD ((4 * i - 16 + r) % 16) 0 ^^^ lastB key i r := by
  obtain ⟨m, hm⟩ : ∃ m, i / 4 = m + 1 := ⟨i / 4 - 1, by omega⟩
  rw [show (4 * i + r) / 16 = m + 1 by omega, show (4 * i + r) % 16 = 4 * (i % 4) + r by omega, show (4 * i - 16 + r) / 16 = m by omega, show (4 * i - 16 + r) % 16 = 4 * (i % 4) + r by omega, lastB, hm, Nat.add_sub_cancel, UInt8.xor_comm, nb_pre]
  rw [rk, nxL, range_getD _ _ _ (by omega), show (4 * (i % 4) + r) % 4 = r by omega, show (4 * (i % 4) + r) / 4 = i % 4 by omega]
/-- A word that is no key's first goes on from the word ahead of it. -/
theorem lastB_next (key : List UInt8) (i r : Nat) (hi : 4 ≤ i) (hr : r < 4) (hc : i % 4 ≠ 0) : lastB key i r = (rk key ((4 * i - 4 + r) / 16)).getD ((4 * i - 4 + r) % 16) 0 := by
  obtain ⟨m, hm⟩ : ∃ m, i / 4 = m + 1 := ⟨i / 4 - 1, by omega⟩
  obtain ⟨c, hc'⟩ : ∃ c, i % 4 = c + 1 := ⟨i % 4 - 1, by omega⟩
  rw [lastB, hm, hc', Nat.add_sub_cancel, show (4 * i - 4 + r) / 16 = m + 1 by omega, show (4 * i - 4 + r) % 16 = 4 * c + r by omega, rk, nxL, range_getD _ _ _ (by omega), show (4 * c + r) % 4 = r by omega, show (4 * c + r) / 4 = c by omega]
  rfl
theorem lastB_first (key : List UInt8) (i r : Nat) (hi : 4 ≤ i) (hr : r < 4) (hc : i % 4 = 0) : lastB key i r = sb ((rk key ((4 * i - 4 + (r + 1) % 4) / 16)).getD ((4 * i - 4 + (r + 1) % 4) % 16) 0) ^^^ (if r = 0 then pw ((i - 1) / 4) else 0) := by
  obtain ⟨m, hm⟩ : ∃ m, i / 4 = m + 1 := ⟨i / 4 - 1, by omega⟩
  rw [lastB, hm, hc, Nat.add_sub_cancel, show (4 * i - 4 + (r + 1) % 4) / 16 = m by omega, show (4 * i - 4 + (r + 1) % 4) % 16 = 12 + (r + 1) % 4 by omega, show (i - 1) / 4 = m by omega]
  rfl
/-- The table of bytes in memory. -/
def TabB (W : World) (S : Nat) : Prop := ∀ x : UInt8, W.cell? ⟨S, x.toNat, none⟩ = some (.int .u8 ((sb x).toNat : Int))
theorem TabB.of_row {W : World} {S : Nat} {T : TypeId} {fr : Nat × Nat} (h : W.heap[S]? = some (.cells (bcells tabL) T fr)) : TabB W S := fun x => by
  rw [bcell_at h x.toNat (by simp [tabL]; exact UInt8.toNat_lt x), tabL, range_getD _ _ _ (UInt8.toNat_lt x)]
  rfl
theorem TabB.lt {W : World} {S : Nat} (h : TabB W S) : S < W.heap.size := block_lt_of_cell (h 0)
theorem TabB.below {W W' : World} {S B : Nat} (h : TabB W S) (hb : Below B W W') (hS : S < B) : TabB W' S := fun x => (hb.cell (p := ⟨S, x.toNat, none⟩) hS).trans (h x)
theorem own_weaken {W : World} {base base' : Nat} {v : Value} {xs : List Value} (h : Own W base v xs) (hb : base' ≤ base) : Own W base' v xs := by
  rcases h with h | ⟨g, cap, hv, h⟩
  · exact .inl h
  · exact .inr ⟨g, cap, hv, Nat.le_trans hb h.base, h.le, h.cells, h.room⟩
/-- The string of a part of a row of bytes. -/
theorem run_string_at (w : World) (g off cap n : Nat) (l : List UInt8) (hl : l.length = n) (h : ∀ j x, l[j]? = some x → w.cell? ⟨g, off + j, none⟩ = some (.int .u8 x.toNat)) :
    (convert 32 9 (.slice (some ⟨g, off, none⟩) n cap)).run Tryd.prog w = .ok (.string ⟨l.toArray⟩) w := by
  subst hl
  have hld : (loadCells ⟨g, off, none⟩ l.length).run Tryd.prog w = .ok (bcells l) w := by
    have := run_loadCells_list (P := Tryd.prog) w ⟨g, off, none⟩ (Lib.byteCells l) (fun j v hv => by
      have hadd : (⟨g, off, none⟩ : Addr).add j = ⟨g, off + j, none⟩ := by unfold Addr.add; split <;> simp_all
      rw [hadd]
      simp only [Lib.byteCells, List.getElem?_map, Option.map_eq_some_iff] at hv
      obtain ⟨x, hx, rfl⟩ := hv
      exact h j x hx)
    rwa [Lib.byteCells_length] at this
  rw [run_convert_bytes_string w 32 9 5 _ _ _ Tryd.underlying32 Tryd.underlying5 Tryd.underlying9,
    run_bytesToString w ⟨g, off, none⟩ l.length cap (l.map fun b => (b.toNat : Int)) (by rw [hld]; simp [bcells, Lib.byteCells]), pushes]
  simp
theorem kfl_part (kl : List UInt8) (hk : kl.length = 16) (W : World) (g : Nat) (h : BytesAt W g 176 (kfl kl 176)) (i : Nat) (hi : i < 11) : ∀ j x, (rk kl i)[j]? = some x → W.cell? ⟨g, 16 * i + j, none⟩ = some (.int .u8 (x.toNat : Int)) := fun j x hx => by
  have hj : j < 16 := by have := (List.getElem?_eq_some_iff.1 hx).1; rwa [rk_length kl hk i] at this
  rw [h (16 * i + j) (by omega), kfl_get _ _ _ (by omega), show (16 * i + j) / 16 = i by omega, show (16 * i + j) % 16 = j by omega, List.getD_eq_getElem?_getD, hx]
  rfl
def rkW (key : List UInt8) (n : Nat) : List Value := (List.range n).map fun i => Value.string ⟨(rk key i).toArray⟩
theorem rkW_length (key : List UInt8) (n : Nat) : (rkW key n).length = n := by simp [rkW]
theorem rkW_snoc (key : List UInt8) (n : Nat) : rkW key n ++ [.string ⟨(rk key n).toArray⟩] = rkW key (n + 1) := by simp [rkW, List.range_succ]
theorem binfo_string : (Tryd.prog.info? 9).map (fun i => (i.zero, i.size, i.bytes)) = some (some (.string ⟨#[]⟩), 1, 16) := by kernel_rfl
theorem pw_tm : ∀ j, j < 10 → tm (pw j).toNat 2 = (pw (j + 1)).toNat := by decide +kernel

end

section
open Go.RowKit Go.Sort
set_option maxRecDepth 100000
set_option linter.unusedSimpArgs false
set_option linter.unusedVariables false

/-- The state behind so many of the rounds. -/
def stR (key blk : List UInt8) (m : Nat) : List UInt8 := if m < 10 then roS key blk m else enL key blk
theorem stR_length (key blk : List UInt8) (m : Nat) : (stR key blk m).length = 16 := by
  unfold stR
  split
  · exact roS_length _ _ _
  · exact enL_length _ _
/-- The bytes swapped and shifted, the reference's way. -/
def ssF (s : List UInt8) (i : Nat) : UInt8 := sb (s.getD ((i + 4 * (i % 4)) % 16) 0)
theorem ss_eq (s : List UInt8) (h : s.length = 16) : genL (ssF s) 16 = shS (swS s) := bytes_ext (genL_length _ _) (shS_length _) fun i hi => by
  rw [genL, range_getD _ _ _ hi, shS, range_getD _ _ _ hi, ssF, swS_getD _ _ (by rw [h]; exact Nat.mod_lt _ (by omega))]
def mxF (t : List UInt8) (i : Nat) : UInt8 := mxB (t.getD (i / 4 * 4 + i % 4) 0) (t.getD (i / 4 * 4 + (i % 4 + 1) % 4) 0) (t.getD (i / 4 * 4 + (i % 4 + 2) % 4) 0) (t.getD (i / 4 * 4 + (i % 4 + 3) % 4) 0)
theorem mx_eq (t : List UInt8) : genL (mxF t) 16 = mxS t := rfl
theorem stR_mid (key blk : List UInt8) (m : Nat) (h : m + 1 < 10) : plS (mxS (shS (swS (stR key blk m)))) (rk key (m + 1)) = stR key blk (m + 1) := by
  rw [stR, if_pos (by omega), stR, if_pos h]; rfl
theorem stR_end (key blk : List UInt8) : plS (shS (swS (stR key blk 9))) (rk key (9 + 1)) = stR key blk (9 + 1) := by
  rw [stR, if_pos (by omega), stR, if_neg (by omega)]; rfl
/-- What the reference adds up for a byte of a column. -/
theorem mix_ref (a b c d : UInt8) : ((mxB a b c d).toNat : Int) = bits .xor .i64 (bits .xor .i64 (bits .xor .i64 ((tm a.toNat 2 : Nat) : Int) ((tm b.toNat 3 : Nat) : Int)) (c.toNat : Int)) (d.toNat : Int) % 256 := by
  have ha := UInt8.toNat_lt a; have hb := UInt8.toNat_lt b; have hc := UInt8.toNat_lt c; have hd := UInt8.toNat_lt d
  have h1 := tm_lt a.toNat 2 ha
  have h2 := tm_lt b.toNat 3 hb
  have h3 := xor_lt8 h1 h2
  have h4 := xor_lt8 h3 hc
  have h5 := xor_lt8 h4 hd
  rw [ax_xor _ _ (by omega) (by omega), ax_xor _ _ (by omega) (by omega), ax_xor _ _ (by omega) (by omega)]
  rw [mxB_toNat, tm2 _ ha, tm3 _ hb]
  have hlin : dbl1 (a.toNat ^^^ b.toNat) = dbl1 a.toNat ^^^ dbl1 b.toNat := dbl_lin _ _ ha hb
  rw [hlin]
  rw [tm2 _ ha, tm3 _ hb] at h5
  rw [← Nat.xor_assoc (dbl1 a.toNat)] at *
  omega
/-- The slice of the round keys. -/
def KeysAt (W : World) (K : Nat) (key : List UInt8) : Prop := ∀ j, j < 11 → W.cell? ⟨K, j, none⟩ = some (.string ⟨(rk key j).toArray⟩)
theorem KeysAt.below {W W' : World} {K B : Nat} {key : List UInt8} (h : KeysAt W K key) (hb : Below B W W') (hK : K < B) : KeysAt W' K key := fun j hj => (hb.cell (p := ⟨K, j, none⟩) hK).trans (h j hj)
theorem KeysAt.lt {W : World} {K : Nat} {key : List UInt8} (h : KeysAt W K key) : K < W.heap.size := block_lt_of_cell (h 0 (by omega))
theorem arr_size (l : List UInt8) : (⟨l.toArray⟩ : ByteArray).size = l.length := rfl

def sheetC (K kc S sc : Nat) : Array Value := #[.slice (some ⟨K, 0, none⟩) 11 kc, .slice (some ⟨S, 0, none⟩) 256 sc]

end

section
open Go.RowKit Go.Sort
set_option maxRecDepth 100000
set_option linter.unusedSimpArgs false
set_option linter.unusedVariables false

theorem keysAt_of_own {W : World} {base cap : Nat} {ao : Option Addr} {key : List UInt8} (h : Own W base (.slice ao 11 cap) ((List.range 11).map fun i => Value.string ⟨(rk key i).toArray⟩)) : ∃ K, ao = some ⟨K, 0, none⟩ ∧ KeysAt W K key := by
  obtain ⟨g, c, hv, ho, _⟩ := h.some (by simp)
  injection hv with h1 _ _
  exact ⟨g, h1, fun j hj => ho.cells j _ (by simp [hj])⟩

end
end Go.Proofs.YtaodbhhdjehnnaaDoor
