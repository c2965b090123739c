/- What the codes of package mac are, over plain lists of bytes: the block key, HMAC by both hash functions, Expand; Bytes: when an or of a xor is nought; The block key of package mac: an array of 128 bytes, with masks; blockKeyOf, masked and code of package mac at SHA-256; blockKeyOf, masked and code of package mac at SHA-512; Mac, Extract, expanded, Expand and Same of package mac; labelInfo and Label of package mac. -/
import Derived.Test.YtjjgakkijhjaiaaDoorShaP
import Derived.Lib.BufferWrite
import Derived.Lib.AppendStr
import Derived.Test.YtjjgakkijhjaiaaDoorBase
namespace Go.Proofs.YtjjgakkijhjaiaaDoor
section
open Go.RowKit Go.Sort
set_option maxRecDepth 100000
set_option linter.unusedSimpArgs false
set_option linter.unusedVariables false

/-- The key that is put into a block: the key, or its digest if it is longer. -/
def keyOf32 (key : List UInt8) : List UInt8 := if 64 < key.length then sha256L kf hf key else key
def keyOf64 (key : List UInt8) : List UInt8 := if 128 < key.length then sha512L kf hf key else key
theorem keyOf32_length (key : List UInt8) : (keyOf32 key).length ≤ 64 := by
  unfold keyOf32; split
  · rw [sha256L_length]; omega
  · omega
theorem keyOf64_length (key : List UInt8) : (keyOf64 key).length ≤ 128 := by
  unfold keyOf64; split
  · rw [sha512L_length]; omega
  · omega
/-- A block of 128 bytes that begins with a key. -/
def blockL (key : List UInt8) : List UInt8 := key ++ List.replicate (128 - key.length) 0
theorem blockL_length (key : List UInt8) (h : key.length ≤ 128) : (blockL key).length = 128 := by simp [blockL]; omega
/-- The first n bytes of a block, each xor a mask. -/
def maskL (n : Nat) (m : Int) (b : List UInt8) : List UInt8 := (b.take n).map (xorB m)
theorem maskL_length (n : Nat) (m : Int) (b : List UInt8) (h : n ≤ b.length) : (maskL n m b).length = n := by simp [maskL]; omega
/-- The code of data under a block key. -/
def code32 (b data : List UInt8) : List UInt8 := sha256L kf hf (maskL 64 92 b ++ sha256L kf hf (maskL 64 54 b ++ data))
def code64 (b data : List UInt8) : List UInt8 := sha512L kf hf (maskL 128 92 b ++ sha512L kf hf (maskL 128 54 b ++ data))
theorem code32_length (b data : List UInt8) : (code32 b data).length = 32 := sha256L_length _ _ _
theorem code64_length (b data : List UInt8) : (code64 b data).length = 64 := sha512L_length _ _ _
def mac32 (key data : List UInt8) : List UInt8 := code32 (blockL (keyOf32 key)) data
def mac64 (key data : List UInt8) : List UInt8 := code64 (blockL (keyOf64 key)) data
/-- The codes t1, t2 and so on of Expand, and all of them together. -/
def tL (b info : List UInt8) : Nat → List UInt8
  | 0 => []
  | i + 1 => code32 b (tL b info i ++ info ++ [UInt8.ofNat (i + 1)])
def outL (b info : List UInt8) : Nat → List UInt8
  | 0 => []
  | i + 1 => outL b info i ++ tL b info (i + 1)
theorem tL_length (b info : List UInt8) (i : Nat) : (tL b info i).length ≤ 32 := by
  cases i with
  | zero => simp [tL]
  | succ i => simp [tL, code32_length]
theorem outL_length (b info : List UInt8) (i : Nat) : (outL b info i).length = 32 * i := by
  induction i with
  | zero => rfl
  | succ i ih => simp [outL, ih, tL, code32_length]; omega
def expL (b info : List UInt8) (n : Nat) : List UInt8 := (outL b info ((n + 31) / 32)).take n
theorem expL_length (b info : List UInt8) (n : Nat) : (expL b info n).length = n := by
  simp [expL, outL_length]; omega
theorem outL_begins (b info : List UInt8) (i d : Nat) : (outL b info (i + d)).take (32 * i) = outL b info i := by
  induction d with
  | zero => rw [Nat.add_zero, List.take_of_length_le (by rw [outL_length]; omega)]
  | succ d ih => rw [← Nat.add_assoc, outL, List.take_append, ih, outL_length, show 32 * i - 32 * (i + d) = 0 by omega]; simp
/-- What is expanded to fewer bytes is a beginning of what is expanded to more. -/
theorem expL_begins (b info : List UInt8) (m n : Nat) (h : m ≤ n) : (expL b info n).take m = expL b info m := by
  obtain ⟨d, hd⟩ : ∃ d, (n + 31) / 32 = (m + 31) / 32 + d := ⟨(n + 31) / 32 - (m + 31) / 32, by omega⟩
  rw [expL, List.take_take, Nat.min_eq_left h, hd, expL, ← outL_begins b info ((m + 31) / 32) d, List.take_take, Nat.min_eq_left (by omega)]
/-- A block key does not see noughts behind a key. -/
theorem blockL_snoc (key : List UInt8) (h : key.length < 128) : blockL (key ++ [0]) = blockL key := by
  simp only [blockL, List.length_append, List.length_cons, List.length_nil, List.append_assoc]
  congr 1
  rw [show 128 - key.length = (128 - (key.length + (0 + 1))) + 1 by omega, List.replicate_succ]
  rfl
theorem blockL_zeros (n : Nat) (h : n ≤ 128) : blockL (List.replicate n 0) = blockL [] := by
  simp only [blockL, List.length_replicate, List.replicate_append_replicate, List.length_nil, List.nil_append]
  congr 1; omega
/-- The chapter's example. -/
theorem fox : ((mac32 [107, 101, 121] [84, 104, 101, 32, 113, 117, 105, 99, 107, 32, 98, 114, 111, 119, 110, 32, 102, 111, 120, 32, 106, 117, 109, 112, 115, 32, 111, 118, 101, 114, 32, 116, 104, 101, 32, 108, 97, 122, 121, 32, 100, 111, 103]).take 4 == [247, 188, 131, 244]) = true := by decide +kernel
end

section
open Go.RowKit Go.Sort
set_option maxRecDepth 100000
set_option linter.unusedSimpArgs false
set_option linter.unusedVariables false

theorem xor8_zero : (List.range 256).all (fun x => (List.range 256).all fun y => (bits .xor .u8 (x : Int) (y : Int) == 0) == (x == y)) = true := by decide +kernel
theorem or8_zero : (List.range 256).all (fun x => (List.range 256).all fun y => (bits .or .u8 (x : Int) (y : Int) == 0) == (x == 0 && y == 0)) = true := by decide +kernel
/-- Whether two bytes differ, and what was found before. -/
theorem or_xor_zero (d x y : Nat) (hd : d < 256) (hx : x < 256) (hy : y < 256) : bits .or .u8 (d : Int) (bits .xor .u8 (x : Int) (y : Int)) = 0 ↔ d = 0 ∧ x = y := by
  obtain ⟨h0, h1⟩ := bits8_range .xor (x : Int) (y : Int)
  have e1 := List.all_eq_true.1 (List.all_eq_true.1 xor8_zero x (List.mem_range.2 hx)) y (List.mem_range.2 hy)
  obtain ⟨z, hz⟩ : ∃ z : Nat, bits .xor .u8 (x : Int) (y : Int) = (z : Int) := ⟨_, (Int.toNat_of_nonneg h0).symm⟩
  rw [hz] at e1 h1 ⊢
  have e2 := List.all_eq_true.1 (List.all_eq_true.1 or8_zero d (List.mem_range.2 hd)) z (List.mem_range.2 (by omega))
  generalize bits .or .u8 (d : Int) (z : Int) = q at *
  simp only [beq_iff_eq, Bool.beq_eq_decide_eq] at e1 e2
  by_cases hq : q = 0 <;> by_cases hz0 : z = 0 <;> by_cases hxy : x = y <;> by_cases hd0 : d = 0 <;> simp_all
end

section
open Go.RowKit Go.Sort
set_option maxRecDepth 100000
set_option linter.unusedSimpArgs false
set_option linter.unusedVariables false

/-- The cells of a block key. -/
def bkc (b : List UInt8) : Array Value := bcells b
def zeros128 : Array Value := bcells (List.replicate 128 0)
theorem infoBk : (Tryd.prog.info? 59).map (fun i => (i.zero, i.size)) = some (some (.agg zeros128), 128) := by kernel_rfl
theorem bkc_size (b : List UInt8) : (bkc b).size = b.length := bcells_size b
theorem bkc_one (b : List UInt8) : (bkc b).all (·.oneCell') = true := by
  rw [Array.all_eq_true]
  intro i hi
  simp [bkc, bcells, Lib.byteCells, Value.oneCell']

/-- The copy of a key into a new block. -/
theorem copy_block (V : World) (k : ByteArray) (h : k.size ≤ 128) :
    (Builtin.copy_ #[38, 9] 3 #[.slice (some ⟨V.heap.size, 0, none⟩) 128 128, .string k]).run Tryd.prog (V.alloc (.cells zeros128 59)) = .ok (.int .i64 k.size) ((V.alloc (.cells zeros128 59)).setRow V.heap.size (bkc (blockL k.data.toList))) := by
  obtain ⟨i0, hi, hz0, hz1, hz2⟩ := info_parts info_u8
  have hinfo : (Tryd.prog.info? 5).map (·.size) = some 1 := by rw [hi]; simp [hz1]
  have hl : k.data.toList.length = k.size := (Lib.size_eq k).symm
  have hcp := Lib.run_copy_row_string (P := Tryd.prog) (V.alloc (.cells zeros128 59)) 38 9 3 5 V.heap.size 0 128 128 k zeros128 59 Tryd.underlying38 hinfo (blk_new V _) h (by rw [show zeros128.size = 128 from bcells_size _]; omega)
  rw [hcp]
  have e : (zeros128.toList.take 0 ++ Lib.byteCells k.data.toList ++ zeros128.toList.drop (0 + k.size)).toArray = bkc (blockL k.data.toList) := by
    rw [List.take_zero, List.nil_append, Nat.zero_add, zeros128, bcells, List.toList_toArray, bkc, bcells, blockL, Lib.byteCells_append, hl]
    congr 2
    rw [Lib.byteCells, Lib.byteCells, ← List.map_drop, List.drop_replicate]
  rw [e]
  rfl

theorem blockOf32 (w : World) : Calls Tryd.prog 69 #[.int .i64 32] w fun e w' => e = .returned (.int .i64 64) ∧ w = w' := by
  go_enter Tryd.func69, Tryd.ntmps69
  go_wp2
  go_ret
  exact ⟨rfl, rfl⟩
theorem blockOf64 (w : World) : Calls Tryd.prog 69 #[.int .i64 64] w fun e w' => e = .returned (.int .i64 128) ∧ w = w' := by
  go_enter Tryd.func69, Tryd.ntmps69
  go_wp2
  go_ret
  exact ⟨rfl, rfl⟩
theorem macDigest32 (s : ByteArray) (w : World) (hK : TabK w kf) (hH : TabH w hf) (hs : s.size ≤ 1099511627776) :
    Calls Tryd.prog 67 #[.int .i64 32, .string s] w fun e w' => e = .returned (.string ⟨(sha256L kf hf s.data.toList).toArray⟩) ∧ Below w.heap.size w w' := by
  generalize hx : (⟨(sha256L kf hf s.data.toList).toArray⟩ : ByteArray) = x
  have h1 := sum256_any kf hf s w hK hH hs
  rw [hx] at h1
  go_enter Tryd.func67, Tryd.ntmps67
  go_wp2_with fail
  refine h1.mono ?_
  rintro e W1 ⟨rfl, hb1⟩
  go_wp2_with fail
  go_ret
  exact ⟨rfl, hb1⟩
theorem macDigest64 (s : ByteArray) (w : World) (hK : TabK w kf) (hH : TabH w hf) (hs : s.size ≤ 1099511627776) :
    Calls Tryd.prog 67 #[.int .i64 64, .string s] w fun e w' => e = .returned (.string ⟨(sha512L kf hf s.data.toList).toArray⟩) ∧ Below w.heap.size w w' := by
  generalize hx : (⟨(sha512L kf hf s.data.toList).toArray⟩ : ByteArray) = x
  have h1 := sum512_any kf hf s w hK hH hs
  rw [hx] at h1
  go_enter Tryd.func67, Tryd.ntmps67
  go_wp2_with fail
  refine h1.mono ?_
  rintro e W1 ⟨rfl, hb1⟩
  go_wp2_with fail
  go_ret
  exact ⟨rfl, hb1⟩

/-- A block whose first k bytes are masked. -/
def mixM (m : Int) (b : List UInt8) (k : Nat) : List UInt8 := (b.take k).map (xorB m) ++ b.drop k
theorem mixM_length (m : Int) (b : List UInt8) (k : Nat) : (mixM m b k).length = b.length := by simp [mixM]; omega
theorem mixM_zero (m : Int) (b : List UInt8) : mixM m b 0 = b := by simp [mixM]
theorem mixM_take (m : Int) (b : List UInt8) (k : Nat) (h : k ≤ b.length) : (mixM m b k).take k = maskL k m b := by
  rw [mixM, List.take_append_of_le_length (by simp; omega), List.take_of_length_le (by simp; omega), maskL]
theorem mixM_get (m : Int) (b : List UInt8) (k : Nat) (x : UInt8) (h : b[k]? = some x) : (mixM m b k)[k]? = some x := by
  have hk : k < b.length := (List.getElem?_eq_some_iff.1 h).1
  rw [mixM, List.getElem?_append_right (by simp; omega)]
  simp only [List.length_map, List.length_take, List.getElem?_drop]
  rw [← h]; congr 1; omega
theorem mixM_set (m : Int) (b : List UInt8) (k : Nat) (x : UInt8) (h : b[k]? = some x) : (mixM m b k).set k (xorB m x) = mixM m b (k + 1) := by
  have hk : k < b.length := (List.getElem?_eq_some_iff.1 h).1
  have hx : b[k] = x := (List.getElem?_eq_some_iff.1 h).2
  have hl : ((b.take k).map (xorB m)).length = k := by simp; omega
  rw [mixM, List.set_append, if_neg (by omega), hl, Nat.sub_self, List.drop_eq_getElem_cons hk, List.set_cons_zero, mixM, List.take_succ_eq_append_getElem hk, hx]
  simp
end

section
open Go.RowKit Go.Sort
set_option maxRecDepth 100000
set_option linter.unusedSimpArgs false
set_option linter.unusedVariables false

set_option maxHeartbeats 1000000 in
theorem masked32 (m : Int) (b : List UInt8) (w : World) (hl : b.length = 128) :
    Calls Tryd.prog 68 #[.agg (bkc b), .int .i64 32, .int .u8 m] w fun e w' => e = .returned (.string ⟨(maskL 64 m b).toArray⟩) ∧ Below w.heap.size w w' := by
  have HI := Lib.hid (show (Tryd.prog.info? 59).map (·.size) = some (bkc b).size from by rw [bkc_size, hl]; exact (zero_of_info infoBk).2)
  have H1 := Lib.hid (bkc_one b)
  have hG : (w.alloc (.cells (bkc b) 59)).heap[w.heap.size]? = some (.cells (bkc (mixM m b 0)) 59) := by rw [mixM_zero]; exact blk_new w _
  have hB := below_new w (.cells (bkc b) 59)
  have HG := Lib.hid hG
  clear hG
  go_enter Tryd.func68, Tryd.ntmps68
  go_wp2_with fail
  refine (blockOf32 _).mono ?_
  rintro e W1 ⟨rfl, rfl⟩
  generalize (w.alloc _) = W at *
  generalize hBB : w.heap.size = B at *
  have HBB := Lib.hid hBB
  clear hBB
  go_wp2_with fail
  go_loopw [14] (fun i wr => ∃ k : Nat, k ≤ 64 ∧ i = .int .i64 k ∧ wr.heap[B]? = some (.cells (bkc (mixM m b k)) 59) ∧ Below B w wr) (fun i _ => 64 - (intOf i).toNat)
  case atStart => exact ⟨0, by omega, rfl, HG.out, hB⟩
  case round =>
    clear HG hB
    obtain ⟨k, hk, rfl, hg, hb⟩ := hrel
    have HG := Lib.hid hg
    clear hg
    by_cases hk64 : k < 64
    · have hd : decide ((k : Int) < 64) = true := by simp; omega
      obtain ⟨x, hx⟩ : ∃ x, b[k]? = some x := ⟨_, List.getElem?_eq_getElem (by omega)⟩
      have ck : wr.cell? ⟨B, k, none⟩ = some (.int .u8 x.toNat) := by rw [cell_of_row wr _ _ _ _ _ HG.out]; exact bcells_get _ _ _ (mixM_get m b k x hx)
      have fk : wr.frozen? ⟨B, k, none⟩ = false := frozen_of_row wr _ _ _ _ HG.out
      have HS := Lib.hid (mixM_set m b k x hx)
      have HX := Lib.hid (xorB_toNat m x)
      clear hx
      go_wp2_with fail
      go_roundw
      case rel =>
        refine ⟨k + 1, by omega, by go_num, ?_, hb.setCell (by simp) _⟩
        rw [← HS.out, ← HX.out, bkc, ← bcells_set]
        exact heap_setCell_same _ _ _ _ _ _ HG.out
      case measure => simp [intOf]; omega
    · have hd : decide ((k : Int) < 64) = false := by simp; omega
      obtain rfl : k = 64 := by omega
      have hcv := run_string_row wr B 128 (maskL 64 m b) (fun j x hx => by
        have hj : j < 64 := by
          have := (List.getElem?_eq_some_iff.1 hx).1
          rwa [maskL_length _ _ _ (by omega)] at this
        refine cells_of_bcells HG.out j x ?_
        rw [← mixM_take m b 64 (by omega), List.getElem?_take, if_pos hj] at hx
        exact hx)
      rw [maskL_length _ _ _ (by omega)] at hcv
      go_wp2_with fail
      go_ret
      exact ⟨rfl, by rw [HBB.out]; exact hb⟩

set_option maxHeartbeats 1000000 in
theorem blockKeyOf32 (key : ByteArray) (w : World) (hK : TabK w kf) (hH : TabH w hf) (hs : key.size ≤ 1099511627776) :
    Calls Tryd.prog 54 #[.int .i64 32, .string key] w fun e w' => e = .returned (.agg (bkc (blockL (keyOf32 key.data.toList)))) ∧ Below w.heap.size w w' := by
  obtain ⟨hz, hi⟩ := zero_of_info infoBk
  have hB0 := below_new w (.cells zeros128 59)
  have hG0 := blk_new w (.cells zeros128 59)
  have hK0 := hK.below hB0 hK.lt; have hH0 := hH.below hB0 hH.lt
  go_enter Tryd.func54, Tryd.ntmps54
  go_wp2_with fail
  generalize (w.alloc _) = W at *
  generalize hBB : w.heap.size = B at *
  have HBB := Lib.hid hBB
  have HG := Lib.hid hG0
  clear hBB hG0 hK hH
  refine (blockOf32 _).mono ?_
  rintro e W1 ⟨rfl, rfl⟩
  by_cases hlong : 64 < key.size
  · have hd : decide ((64 : Int) < (key.size : Int)) = true := by simp; omega
    have HKO := Lib.hid (show keyOf32 key.data.toList = sha256L kf hf key.data.toList from by rw [keyOf32, if_pos (by rw [← Lib.size_eq]; exact hlong)])
    have HK2 := Lib.hid (macDigest32 key W hK0 hH0 hs)
    have HX := Lib.hid (show (sha256L kf hf key.data.toList).length = 32 from sha256L_length _ _ _)
    go_wp2_with fail
    refine HK2.out.mono ?_
    rintro e W1 ⟨rfl, hb1⟩
    clear HK2
    generalize sha256L kf hf key.data.toList = kl at *
    have hlt0 := blk_lt HG.out
    replace HG := Lib.hid (blk_below hb1 hlt0 HG.out)
    have HBV : Below B w W1 := hB0.trans (hb1.mono (Nat.le_of_lt hlt0))
    have HKS := Lib.hid (show (⟨kl.toArray⟩ : ByteArray).size = 32 from by rw [Lib.size_eq]; simpa using HX.out)
    have HL := Lib.hid (show (blockL kl).length = 128 from blockL_length _ (by rw [HX.out]; omega))
    have hcp := copy_block W1 ⟨kl.toArray⟩ (by rw [HKS.out]; omega)
    simp only [List.toList_toArray] at hcp
    generalize hrow : blockL kl = row at *
    have HROW := Lib.hid hrow
    have HI := Lib.hid (show (Tryd.prog.info? 59).map (·.size) = some (bkc row).size from by rw [bkc_size, HL.out]; exact hi)
    have HO := Lib.hid (show zeros128.size = (bkc row).size from by rw [bkc_size, HL.out]; exact bcells_size _)
    have H1 := Lib.hid (bkc_one row)
    have hlt := blk_lt HG.out
    have HA := Lib.hid (show ((W1.alloc (.cells zeros128 59)).setRow W1.heap.size (bkc row)).heap[W1.heap.size]? = some (.cells (bkc row) 59) from setRow_heap _ _ _ _ _ (0, 0) (blk_new W1 _))
    have HR := Lib.hid (show ((W1.alloc (.cells zeros128 59)).setRow W1.heap.size (bkc row)).heap[B]? = some (.cells zeros128 59) from (setRow_other _ _ _ _ (by omega)).trans (blk_old HG.out))
    have hB9 : Below B w ((W1.alloc (.cells zeros128 59)).setRow W1.heap.size (bkc row)) := below_setRow (HBV.alloc (by omega) _) (by omega) _
    clear hrow
    go_wp2_with (first
      | (with_reducible refine wpList_load_row rfl 59 _ rfl W1.heap.size rfl 59 _ (0, 0) _ HA.out Tryd.underlying59 rfl HI.out ?_)
      | (with_reducible refine wpList_store_row rfl 59 _ _ rfl B (bkc row) rfl rfl 59 _ HR.out HI.out HO.out H1.out ?_))
    exact bodyPost_ret (v := .agg (bkc row)) (results_cell_row (by rfl) _ _ B 59 _ (0, 0) _ rfl (setRow_heap _ _ _ _ _ _ HR.out) Tryd.underlying59 rfl HI.out) rfl ⟨by rw [HKO.out, HROW.out], by rw [HBB.out]; exact below_setRow hB9 (by omega) _⟩
  · have hd : decide ((64 : Int) < (key.size : Int)) = false := by simp; omega
    have HKO := Lib.hid (show keyOf32 key.data.toList = key.data.toList from by rw [keyOf32, if_neg (by rw [← Lib.size_eq]; exact hlong)])
    have HBV := hB0
    have HL := Lib.hid (show (blockL key.data.toList).length = 128 from blockL_length _ (by rw [← Lib.size_eq]; omega))
    have hcp := copy_block W key (by omega)
    skip
    generalize hrow : blockL key.data.toList = row at *
    have HROW := Lib.hid hrow
    have HI := Lib.hid (show (Tryd.prog.info? 59).map (·.size) = some (bkc row).size from by rw [bkc_size, HL.out]; exact hi)
    have HO := Lib.hid (show zeros128.size = (bkc row).size from by rw [bkc_size, HL.out]; exact bcells_size _)
    have H1 := Lib.hid (bkc_one row)
    have hlt := blk_lt HG.out
    have HA := Lib.hid (show ((W.alloc (.cells zeros128 59)).setRow W.heap.size (bkc row)).heap[W.heap.size]? = some (.cells (bkc row) 59) from setRow_heap _ _ _ _ _ (0, 0) (blk_new W _))
    have HR := Lib.hid (show ((W.alloc (.cells zeros128 59)).setRow W.heap.size (bkc row)).heap[B]? = some (.cells zeros128 59) from (setRow_other _ _ _ _ (by omega)).trans (blk_old HG.out))
    have hB9 : Below B w ((W.alloc (.cells zeros128 59)).setRow W.heap.size (bkc row)) := below_setRow (HBV.alloc (by omega) _) (by omega) _
    clear hrow
    go_wp2_with (first
      | (with_reducible refine wpList_load_row rfl 59 _ rfl W.heap.size rfl 59 _ (0, 0) _ HA.out Tryd.underlying59 rfl HI.out ?_)
      | (with_reducible refine wpList_store_row rfl 59 _ _ rfl B (bkc row) rfl rfl 59 _ HR.out HI.out HO.out H1.out ?_))
    exact bodyPost_ret (v := .agg (bkc row)) (results_cell_row (by rfl) _ _ B 59 _ (0, 0) _ rfl (setRow_heap _ _ _ _ _ _ HR.out) Tryd.underlying59 rfl HI.out) rfl ⟨by rw [HKO.out, HROW.out], by rw [HBB.out]; exact below_setRow hB9 (by omega) _⟩

set_option maxHeartbeats 1000000 in
theorem code32_any (b : List UInt8) (data : ByteArray) (w : World) (hl : b.length = 128) (hK : TabK w kf) (hH : TabH w hf) (hs : data.size ≤ 549755813888) :
    Calls Tryd.prog 53 #[.int .i64 32, .agg (bkc b), .string data] w fun e w' => e = .returned (.string ⟨(code32 b data.data.toList).toArray⟩) ∧ Below w.heap.size w w' := by
  have HI := Lib.hid (show (Tryd.prog.info? 59).map (·.size) = some (bkc b).size from by rw [bkc_size, hl]; exact (zero_of_info infoBk).2)
  have hB := below_new w (.cells (bkc b) 59)
  have HG := Lib.hid (blk_new w (.cells (bkc b) 59))
  have hK0 := hK.below hB hK.lt; have hH0 := hH.below hB hH.lt
  go_enter Tryd.func53, Tryd.ntmps53
  go_wp2_with (with_reducible refine wpList_load_row rfl 59 _ rfl w.heap.size rfl 59 _ (0, 0) _ HG.out Tryd.underlying59 rfl HI.out ?_)
  generalize (w.alloc _) = W at *
  generalize hBB : w.heap.size = B at *
  have HBB := Lib.hid hBB
  clear hBB hK hH
  have hlt := blk_lt HG.out
  refine (masked32 54 b _ hl).mono ?_
  rintro e W1 ⟨rfl, hb1⟩
  have HG1 := Lib.hid (blk_below hb1 hlt HG.out)
  have hK1 := hK0.below hb1 hK0.lt; have hH1 := hH0.below hb1 hH0.lt
  have hB1 : Below B w W1 := hB.trans (hb1.mono (Nat.le_of_lt hlt))
  have hlt1 := blk_lt HG1.out
  have hm1 : (⟨(maskL 64 54 b).toArray⟩ : ByteArray).size = 64 := by rw [Lib.size_eq]; simpa using maskL_length 64 54 b (by omega)
  have HE1 := Lib.hid (show ((⟨(maskL 64 54 b).toArray⟩ : ByteArray) ++ data).data.toList = maskL 64 54 b ++ data.data.toList from by simp)
  have HC : Hid (code32 b data.data.toList = sha256L kf hf (maskL 64 92 b ++ sha256L kf hf (maskL 64 54 b ++ data.data.toList))) := Lib.hid rfl
  clear HG hK0 hH0 hb1 hB hlt
  generalize (⟨(maskL 64 54 b).toArray⟩ : ByteArray) = s1 at *
  go_wp2_with fail
  have hsz1 : (s1 ++ data).size ≤ 1099511627776 := by rw [ByteArray.size_append]; omega
  refine (macDigest32 (s1 ++ data) _ hK1 hH1 hsz1).mono ?_
  rintro e W2 ⟨rfl, hb2⟩
  rw [HE1.out]
  have HG2 := Lib.hid (blk_below hb2 hlt1 HG1.out)
  have hK2 := hK1.below hb2 hK1.lt; have hH2 := hH1.below hb2 hH1.lt
  have hB2 : Below B w W2 := hB1.trans (hb2.mono (Nat.le_of_lt hlt1))
  have hlt2 := blk_lt HG2.out
  have hi1 : (⟨(sha256L kf hf (maskL 64 54 b ++ data.data.toList)).toArray⟩ : ByteArray).size = 32 := by rw [Lib.size_eq]; simpa using sha256L_length kf hf _
  clear HG1 hK1 hH1 hb2 hB1 hlt1 hsz1 hm1
  generalize sha256L kf hf (maskL 64 54 b ++ data.data.toList) = d1 at *
  go_wp2_with (with_reducible refine wpList_load_row rfl 59 _ rfl B rfl 59 _ (0, 0) _ HG2.out Tryd.underlying59 rfl HI.out ?_)
  refine (masked32 92 b _ hl).mono ?_
  rintro e W3 ⟨rfl, hb3⟩
  have HG3 := Lib.hid (blk_below hb3 hlt2 HG2.out)
  have hK3 := hK2.below hb3 hK2.lt; have hH3 := hH2.below hb3 hH2.lt
  have hB3 : Below B w W3 := hB2.trans (hb3.mono (Nat.le_of_lt hlt2))
  have hlt3 := blk_lt HG3.out
  have hm2 : (⟨(maskL 64 92 b).toArray⟩ : ByteArray).size = 64 := by rw [Lib.size_eq]; simpa using maskL_length 64 92 b (by omega)
  have HE2 := Lib.hid (show ((⟨(maskL 64 92 b).toArray⟩ : ByteArray) ++ (⟨d1.toArray⟩ : ByteArray)).data.toList = maskL 64 92 b ++ d1 from by simp)
  clear HG2 hK2 hH2 hb3 hB2 hlt2
  generalize (⟨(maskL 64 92 b).toArray⟩ : ByteArray) = s2 at *
  generalize (⟨d1.toArray⟩ : ByteArray) = s3 at *
  go_wp2_with fail
  have hsz2 : (s2 ++ s3).size ≤ 1099511627776 := by rw [ByteArray.size_append]; omega
  refine (macDigest32 (s2 ++ s3) _ hK3 hH3 hsz2).mono ?_
  rintro e W4 ⟨rfl, hb4⟩
  rw [HE2.out]
  have hB4 : Below B w W4 := hB3.trans (hb4.mono (Nat.le_of_lt hlt3))
  rw [← HC.out]
  go_wp2_with fail
  go_ret
  exact ⟨rfl, by rw [HBB.out]; exact hB4⟩
end

section
open Go.RowKit Go.Sort
set_option maxRecDepth 100000
set_option linter.unusedSimpArgs false
set_option linter.unusedVariables false

set_option maxHeartbeats 1000000 in
theorem masked64 (m : Int) (b : List UInt8) (w : World) (hl : b.length = 128) :
    Calls Tryd.prog 68 #[.agg (bkc b), .int .i64 64, .int .u8 m] w fun e w' => e = .returned (.string ⟨(maskL 128 m b).toArray⟩) ∧ Below w.heap.size w w' := by
  have HI := Lib.hid (show (Tryd.prog.info? 59).map (·.size) = some (bkc b).size from by rw [bkc_size, hl]; exact (zero_of_info infoBk).2)
  have H1 := Lib.hid (bkc_one b)
  have hG : (w.alloc (.cells (bkc b) 59)).heap[w.heap.size]? = some (.cells (bkc (mixM m b 0)) 59) := by rw [mixM_zero]; exact blk_new w _
  have hB := below_new w (.cells (bkc b) 59)
  have HG := Lib.hid hG
  clear hG
  go_enter Tryd.func68, Tryd.ntmps68
  go_wp2_with fail
  refine (blockOf64 _).mono ?_
  rintro e W1 ⟨rfl, rfl⟩
  generalize (w.alloc _) = W at *
  generalize hBB : w.heap.size = B at *
  have HBB := Lib.hid hBB
  clear hBB
  go_wp2_with fail
  go_loopw [14] (fun i wr => ∃ k : Nat, k ≤ 128 ∧ i = .int .i64 k ∧ wr.heap[B]? = some (.cells (bkc (mixM m b k)) 59) ∧ Below B w wr) (fun i _ => 128 - (intOf i).toNat)
  case atStart => exact ⟨0, by omega, rfl, HG.out, hB⟩
  case round =>
    clear HG hB
    obtain ⟨k, hk, rfl, hg, hb⟩ := hrel
    have HG := Lib.hid hg
    clear hg
    by_cases hk64 : k < 128
    · have hd : decide ((k : Int) < 128) = true := by simp; omega
      obtain ⟨x, hx⟩ : ∃ x, b[k]? = some x := ⟨_, List.getElem?_eq_getElem (by omega)⟩
      have ck : wr.cell? ⟨B, k, none⟩ = some (.int .u8 x.toNat) := by rw [cell_of_row wr _ _ _ _ _ HG.out]; exact bcells_get _ _ _ (mixM_get m b k x hx)
      have fk : wr.frozen? ⟨B, k, none⟩ = false := frozen_of_row wr _ _ _ _ HG.out
      have HS := Lib.hid (mixM_set m b k x hx)
      have HX := Lib.hid (xorB_toNat m x)
      clear hx
      go_wp2_with fail
      go_roundw
      case rel =>
        refine ⟨k + 1, by omega, by go_num, ?_, hb.setCell (by simp) _⟩
        rw [← HS.out, ← HX.out, bkc, ← bcells_set]
        exact heap_setCell_same _ _ _ _ _ _ HG.out
      case measure => simp [intOf]; omega
    · have hd : decide ((k : Int) < 128) = false := by simp; omega
      obtain rfl : k = 128 := by omega
      have hcv := run_string_row wr B 128 (maskL 128 m b) (fun j x hx => by
        have hj : j < 128 := by
          have := (List.getElem?_eq_some_iff.1 hx).1
          rwa [maskL_length _ _ _ (by omega)] at this
        refine cells_of_bcells HG.out j x ?_
        rw [← mixM_take m b 128 (by omega), List.getElem?_take, if_pos hj] at hx
        exact hx)
      rw [maskL_length _ _ _ (by omega)] at hcv
      go_wp2_with fail
      go_ret
      exact ⟨rfl, by rw [HBB.out]; exact hb⟩

set_option maxHeartbeats 1000000 in
theorem blockKeyOf64 (key : ByteArray) (w : World) (hK : TabK w kf) (hH : TabH w hf) (hs : key.size ≤ 1099511627776) :
    Calls Tryd.prog 54 #[.int .i64 64, .string key] w fun e w' => e = .returned (.agg (bkc (blockL (keyOf64 key.data.toList)))) ∧ Below w.heap.size w w' := by
  obtain ⟨hz, hi⟩ := zero_of_info infoBk
  have hB0 := below_new w (.cells zeros128 59)
  have hG0 := blk_new w (.cells zeros128 59)
  have hK0 := hK.below hB0 hK.lt; have hH0 := hH.below hB0 hH.lt
  go_enter Tryd.func54, Tryd.ntmps54
  go_wp2_with fail
  generalize (w.alloc _) = W at *
  generalize hBB : w.heap.size = B at *
  have HBB := Lib.hid hBB
  have HG := Lib.hid hG0
  clear hBB hG0 hK hH
  refine (blockOf64 _).mono ?_
  rintro e W1 ⟨rfl, rfl⟩
  by_cases hlong : 128 < key.size
  · have hd : decide ((128 : Int) < (key.size : Int)) = true := by simp; omega
    have HKO := Lib.hid (show keyOf64 key.data.toList = sha512L kf hf key.data.toList from by rw [keyOf64, if_pos (by rw [← Lib.size_eq]; exact hlong)])
    have HK2 := Lib.hid (macDigest64 key W hK0 hH0 hs)
    have HX := Lib.hid (show (sha512L kf hf key.data.toList).length = 64 from sha512L_length _ _ _)
    go_wp2_with fail
    refine HK2.out.mono ?_
    rintro e W1 ⟨rfl, hb1⟩
    clear HK2
    generalize sha512L kf hf key.data.toList = kl at *
    have hlt0 := blk_lt HG.out
    replace HG := Lib.hid (blk_below hb1 hlt0 HG.out)
    have HBV : Below B w W1 := hB0.trans (hb1.mono (Nat.le_of_lt hlt0))
    have HKS := Lib.hid (show (⟨kl.toArray⟩ : ByteArray).size = 64 from by rw [Lib.size_eq]; simpa using HX.out)
    have HL := Lib.hid (show (blockL kl).length = 128 from blockL_length _ (by rw [HX.out]; omega))
    have hcp := copy_block W1 ⟨kl.toArray⟩ (by rw [HKS.out]; omega)
    simp only [List.toList_toArray] at hcp
    generalize hrow : blockL kl = row at *
    have HROW := Lib.hid hrow
    have HI := Lib.hid (show (Tryd.prog.info? 59).map (·.size) = some (bkc row).size from by rw [bkc_size, HL.out]; exact hi)
    have HO := Lib.hid (show zeros128.size = (bkc row).size from by rw [bkc_size, HL.out]; exact bcells_size _)
    have H1 := Lib.hid (bkc_one row)
    have hlt := blk_lt HG.out
    have HA := Lib.hid (show ((W1.alloc (.cells zeros128 59)).setRow W1.heap.size (bkc row)).heap[W1.heap.size]? = some (.cells (bkc row) 59) from setRow_heap _ _ _ _ _ (0, 0) (blk_new W1 _))
    have HR := Lib.hid (show ((W1.alloc (.cells zeros128 59)).setRow W1.heap.size (bkc row)).heap[B]? = some (.cells zeros128 59) from (setRow_other _ _ _ _ (by omega)).trans (blk_old HG.out))
    have hB9 : Below B w ((W1.alloc (.cells zeros128 59)).setRow W1.heap.size (bkc row)) := below_setRow (HBV.alloc (by omega) _) (by omega) _
    clear hrow
    go_wp2_with (first
      | (with_reducible refine wpList_load_row rfl 59 _ rfl W1.heap.size rfl 59 _ (0, 0) _ HA.out Tryd.underlying59 rfl HI.out ?_)
      | (with_reducible refine wpList_store_row rfl 59 _ _ rfl B (bkc row) rfl rfl 59 _ HR.out HI.out HO.out H1.out ?_))
    exact bodyPost_ret (v := .agg (bkc row)) (results_cell_row (by rfl) _ _ B 59 _ (0, 0) _ rfl (setRow_heap _ _ _ _ _ _ HR.out) Tryd.underlying59 rfl HI.out) rfl ⟨by rw [HKO.out, HROW.out], by rw [HBB.out]; exact below_setRow hB9 (by omega) _⟩
  · have hd : decide ((128 : Int) < (key.size : Int)) = false := by simp; omega
    have HKO := Lib.hid (show keyOf64 key.data.toList = key.data.toList from by rw [keyOf64, if_neg (by rw [← Lib.size_eq]; exact hlong)])
    have HBV := hB0
    have HL := Lib.hid (show (blockL key.data.toList).length = 128 from blockL_length _ (by rw [← Lib.size_eq]; omega))
    have hcp := copy_block W key (by omega)
    skip
    generalize hrow : blockL key.data.toList = row at *
    have HROW := Lib.hid hrow
    have HI := Lib.hid (show (Tryd.prog.info? 59).map (·.size) = some (bkc row).size from by rw [bkc_size, HL.out]; exact hi)
    have HO := Lib.hid (show zeros128.size = (bkc row).size from by rw [bkc_size, HL.out]; exact bcells_size _)
    have H1 := Lib.hid (bkc_one row)
    have hlt := blk_lt HG.out
    have HA := Lib.hid (show ((W.alloc (.cells zeros128 59)).setRow W.heap.size (bkc row)).heap[W.heap.size]? = some (.cells (bkc row) 59) from setRow_heap _ _ _ _ _ (0, 0) (blk_new W _))
    have HR := Lib.hid (show ((W.alloc (.cells zeros128 59)).setRow W.heap.size (bkc row)).heap[B]? = some (.cells zeros128 59) from (setRow_other _ _ _ _ (by omega)).trans (blk_old HG.out))
    have hB9 : Below B w ((W.alloc (.cells zeros128 59)).setRow W.heap.size (bkc row)) := below_setRow (HBV.alloc (by omega) _) (by omega) _
    clear hrow
    go_wp2_with (first
      | (with_reducible refine wpList_load_row rfl 59 _ rfl W.heap.size rfl 59 _ (0, 0) _ HA.out Tryd.underlying59 rfl HI.out ?_)
      | (with_reducible refine wpList_store_row rfl 59 _ _ rfl B (bkc row) rfl rfl 59 _ HR.out HI.out HO.out H1.out ?_))
    exact bodyPost_ret (v := .agg (bkc row)) (results_cell_row (by rfl) _ _ B 59 _ (0, 0) _ rfl (setRow_heap _ _ _ _ _ _ HR.out) Tryd.underlying59 rfl HI.out) rfl ⟨by rw [HKO.out, HROW.out], by rw [HBB.out]; exact below_setRow hB9 (by omega) _⟩

set_option maxHeartbeats 1000000 in
theorem code64_any (b : List UInt8) (data : ByteArray) (w : World) (hl : b.length = 128) (hK : TabK w kf) (hH : TabH w hf) (hs : data.size ≤ 549755813888) :
    Calls Tryd.prog 53 #[.int .i64 64, .agg (bkc b), .string data] w fun e w' => e = .returned (.string ⟨(code64 b data.data.toList).toArray⟩) ∧ Below w.heap.size w w' := by
  have HI := Lib.hid (show (Tryd.prog.info? 59).map (·.size) = some (bkc b).size from by rw [bkc_size, hl]; exact (zero_of_info infoBk).2)
  have hB := below_new w (.cells (bkc b) 59)
  have HG := Lib.hid (blk_new w (.cells (bkc b) 59))
  have hK0 := hK.below hB hK.lt; have hH0 := hH.below hB hH.lt
  go_enter Tryd.func53, Tryd.ntmps53
  go_wp2_with (with_reducible refine wpList_load_row rfl 59 _ rfl w.heap.size rfl 59 _ (0, 0) _ HG.out Tryd.underlying59 rfl HI.out ?_)
  generalize (w.alloc _) = W at *
  generalize hBB : w.heap.size = B at *
  have HBB := Lib.hid hBB
  clear hBB hK hH
  have hlt := blk_lt HG.out
  refine (masked64 54 b _ hl).mono ?_
  rintro e W1 ⟨rfl, hb1⟩
  have HG1 := Lib.hid (blk_below hb1 hlt HG.out)
  have hK1 := hK0.below hb1 hK0.lt; have hH1 := hH0.below hb1 hH0.lt
  have hB1 : Below B w W1 := hB.trans (hb1.mono (Nat.le_of_lt hlt))
  have hlt1 := blk_lt HG1.out
  have hm1 : (⟨(maskL 128 54 b).toArray⟩ : ByteArray).size = 128 := by rw [Lib.size_eq]; simpa using maskL_length 128 54 b (by omega)
  have HE1 := Lib.hid (show ((⟨(maskL 128 54 b).toArray⟩ : ByteArray) ++ data).data.toList = maskL 128 54 b ++ data.data.toList from by simp)
  have HC : Hid (code64 b data.data.toList = sha512L kf hf (maskL 128 92 b ++ sha512L kf hf (maskL 128 54 b ++ data.data.toList))) := Lib.hid rfl
  clear HG hK0 hH0 hb1 hB hlt
  generalize (⟨(maskL 128 54 b).toArray⟩ : ByteArray) = s1 at *
  go_wp2_with fail
  have hsz1 : (s1 ++ data).size ≤ 1099511627776 := by rw [ByteArray.size_append]; omega
  refine (macDigest64 (s1 ++ data) _ hK1 hH1 hsz1).mono ?_
  rintro e W2 ⟨rfl, hb2⟩
  rw [HE1.out]
  have HG2 := Lib.hid (blk_below hb2 hlt1 HG1.out)
  have hK2 := hK1.below hb2 hK1.lt; have hH2 := hH1.below hb2 hH1.lt
  have hB2 : Below B w W2 := hB1.trans (hb2.mono (Nat.le_of_lt hlt1))
  have hlt2 := blk_lt HG2.out
  have hi1 : (⟨(sha512L kf hf (maskL 128 54 b ++ data.data.toList)).toArray⟩ : ByteArray).size = 64 := by rw [Lib.size_eq]; simpa using sha512L_length kf hf _
  clear HG1 hK1 hH1 hb2 hB1 hlt1 hsz1 hm1
  generalize sha512L kf hf (maskL 128 54 b ++ data.data.toList) = d1 at *
  go_wp2_with (with_reducible refine wpList_load_row rfl 59 _ rfl B rfl 59 _ (0, 0) _ HG2.out Tryd.underlying59 rfl HI.out ?_)
  refine (masked64 92 b _ hl).mono ?_
  rintro e W3 ⟨rfl, hb3⟩
  have HG3 := Lib.hid (blk_below hb3 hlt2 HG2.out)
  have hK3 := hK2.below hb3 hK2.lt; have hH3 := hH2.below hb3 hH2.lt
  have hB3 : Below B w W3 := hB2.trans (hb3.mono (Nat.le_of_lt hlt2))
  have hlt3 := blk_lt HG3.out
  have hm2 : (⟨(maskL 128 92 b).toArray⟩ : ByteArray).size = 128 := by rw [Lib.size_eq]; simpa using maskL_length 128 92 b (by omega)
  have HE2 := Lib.hid (show ((⟨(maskL 128 92 b).toArray⟩ : ByteArray) ++ (⟨d1.toArray⟩ : ByteArray)).data.toList = maskL 128 92 b ++ d1 from by simp)
  clear HG2 hK2 hH2 hb3 hB2 hlt2
  generalize (⟨(maskL 128 92 b).toArray⟩ : ByteArray) = s2 at *
  generalize (⟨d1.toArray⟩ : ByteArray) = s3 at *
  go_wp2_with fail
  have hsz2 : (s2 ++ s3).size ≤ 1099511627776 := by rw [ByteArray.size_append]; omega
  refine (macDigest64 (s2 ++ s3) _ hK3 hH3 hsz2).mono ?_
  rintro e W4 ⟨rfl, hb4⟩
  rw [HE2.out]
  have hB4 : Below B w W4 := hB3.trans (hb4.mono (Nat.le_of_lt hlt3))
  rw [← HC.out]
  go_wp2_with fail
  go_ret
  exact ⟨rfl, by rw [HBB.out]; exact hB4⟩
end

section
open Go.RowKit Go.Sort
set_option maxRecDepth 100000
set_option linter.unusedSimpArgs false
set_option linter.unusedVariables false

theorem mac32_any (key data : ByteArray) (w : World) (hK : TabK w kf) (hH : TabH w hf) (hk : key.size ≤ 1099511627776) (hs : data.size ≤ 549755813888) :
    Calls Tryd.prog 41 #[.int .i64 32, .string key, .string data] w fun e w' => e = .returned (.tuple #[.string ⟨(mac32 key.data.toList data.data.toList).toArray⟩, .int .i64 0]) ∧ Below w.heap.size w w' := by
  have HL := Lib.hid (blockL_length _ (Nat.le_trans (keyOf32_length key.data.toList) (by omega)))
  have HM : Hid (mac32 key.data.toList data.data.toList = code32 (blockL (keyOf32 key.data.toList)) data.data.toList) := Lib.hid rfl
  go_enter Tryd.func41, Tryd.ntmps41
  go_wp2_with fail
  refine (blockKeyOf32 key w hK hH hk).mono ?_
  rintro e W1 ⟨rfl, hb1⟩
  generalize blockL (keyOf32 key.data.toList) = b at *
  go_wp2_with fail
  refine (code32_any b data W1 HL.out (hK.below hb1 hK.lt) (hH.below hb1 hH.lt) hs).mono ?_
  rintro e W2 ⟨rfl, hb2⟩
  go_wp2_with fail
  go_ret2
  exact ⟨by rw [HM.out]; rfl, hb1.trans (hb2.mono hb1.size)⟩
theorem mac64_any (key data : ByteArray) (w : World) (hK : TabK w kf) (hH : TabH w hf) (hk : key.size ≤ 1099511627776) (hs : data.size ≤ 549755813888) :
    Calls Tryd.prog 41 #[.int .i64 64, .string key, .string data] w fun e w' => e = .returned (.tuple #[.string ⟨(mac64 key.data.toList data.data.toList).toArray⟩, .int .i64 0]) ∧ Below w.heap.size w w' := by
  have HL := Lib.hid (blockL_length _ (keyOf64_length key.data.toList))
  have HM : Hid (mac64 key.data.toList data.data.toList = code64 (blockL (keyOf64 key.data.toList)) data.data.toList) := Lib.hid rfl
  go_enter Tryd.func41, Tryd.ntmps41
  go_wp2_with fail
  refine (blockKeyOf64 key w hK hH hk).mono ?_
  rintro e W1 ⟨rfl, hb1⟩
  generalize blockL (keyOf64 key.data.toList) = b at *
  go_wp2_with fail
  refine (code64_any b data W1 HL.out (hK.below hb1 hK.lt) (hH.below hb1 hH.lt) hs).mono ?_
  rintro e W2 ⟨rfl, hb2⟩
  go_wp2_with fail
  go_ret2
  exact ⟨by rw [HM.out]; rfl, hb1.trans (hb2.mono hb1.size)⟩
theorem macNone_any (size : Int) (key data : ByteArray) (w : World) (h1 : size ≠ 32) (h2 : size ≠ 64) :
    Calls Tryd.prog 41 #[.int .i64 size, .string key, .string data] w fun e w' => e = .returned (.tuple #[.string ⟨#[]⟩, .int .i64 1]) ∧ Below w.heap.size w w' := by
  have hd1 : (size != 32) = true := by simpa using h1
  have hd2 : (size != 64) = true := by simpa using h2
  go_enter Tryd.func41, Tryd.ntmps41
  go_wp2_with fail
  go_ret2
  exact ⟨rfl, Below.refl _ _⟩
theorem extract_any (salt input : ByteArray) (w : World) (hK : TabK w kf) (hH : TabH w hf) (hk : salt.size ≤ 1099511627776) (hs : input.size ≤ 549755813888) :
    Calls Tryd.prog 32 #[.string salt, .string input] w fun e w' => e = .returned (.string ⟨(mac32 salt.data.toList input.data.toList).toArray⟩) ∧ Below w.heap.size w w' := by
  have HL := Lib.hid (blockL_length _ (Nat.le_trans (keyOf32_length salt.data.toList) (by omega)))
  have HM : Hid (mac32 salt.data.toList input.data.toList = code32 (blockL (keyOf32 salt.data.toList)) input.data.toList) := Lib.hid rfl
  go_enter Tryd.func32, Tryd.ntmps32
  go_wp2_with fail
  refine (blockKeyOf32 salt w hK hH hk).mono ?_
  rintro e W1 ⟨rfl, hb1⟩
  generalize blockL (keyOf32 salt.data.toList) = b at *
  go_wp2_with fail
  refine (code32_any b input W1 HL.out (hK.below hb1 hK.lt) (hH.below hb1 hH.lt) hs).mono ?_
  rintro e W2 ⟨rfl, hb2⟩
  go_wp2_with fail
  go_ret
  exact ⟨by rw [HM.out]; rfl, hb1.trans (hb2.mono hb1.size)⟩


def sliceLn (v : Value) : Nat := match v with | .slice _ n _ => n | _ => 0
/-- expanded: the first n bytes of the codes. -/
def zerosN (n : Nat) : Array Value := bcells (List.replicate n 0)
def outRow (b info : List UInt8) (n i : Nat) : Array Value := bcells (outL b info i ++ List.replicate (n + 32 - 32 * i) 0)
theorem outRow_zero (b info : List UInt8) (n : Nat) : outRow b info n 0 = zerosN (n + 32) := by simp [outRow, zerosN, outL]
theorem outRow_get (b info : List UInt8) (n i j : Nat) (x : UInt8) (h : (outL b info i)[j]? = some x) : (outRow b info n i)[j]? = some (.int .u8 x.toNat) := by
  have hj := (List.getElem?_eq_some_iff.1 h).1
  exact bcells_get _ _ _ (by rw [List.getElem?_append_left hj]; exact h)
theorem outRow_append (b info : List UInt8) (n i : Nat) (h : 32 * (i + 1) ≤ n + 32) (t : ByteArray) (ht : t.data.toList = tL b info (i + 1)) :
    ((outRow b info n i).toList.take (32 * i) ++ Lib.strCells t ++ (outRow b info n i).toList.drop (32 * i + t.size)).toArray = outRow b info n (i + 1) := by
  have hlo := outL_length b info i
  have hlt : t.size = 32 := by rw [Lib.size_eq, ht, tL, code32_length]
  have e : Lib.strCells t = Lib.byteCells (tL b info (i + 1)) := by rw [Lib.strCells, ht]; rfl
  rw [e, hlt, outRow, bcells, List.toList_toArray, outRow, bcells, outL, Lib.byteCells, Lib.byteCells, Lib.byteCells]
  congr 1
  rw [← List.map_take, ← List.map_drop, List.take_append_of_le_length (by omega), List.take_of_length_le (by omega), List.drop_append, List.drop_of_length_le (by omega), List.nil_append, List.drop_replicate, hlo, ← List.map_append, ← List.map_append]
  congr 3
  omega
set_option maxHeartbeats 2000000 in
theorem expanded_any (b : List UInt8) (info : ByteArray) (n : Nat) (w : World) (hl : b.length = 128) (hK : TabK w kf) (hH : TabH w hf) (hs : info.size ≤ 274877906944) (hn : n ≤ 8160) :
    Calls Tryd.prog 63 #[.agg (bkc b), .string info, .int .i64 (n : Int)] w fun e w' => e = .returned (.string ⟨(expL b info.data.toList n).toArray⟩) ∧ Below w.heap.size w w' := by
  have HI := Lib.hid (show (Tryd.prog.info? 59).map (·.size) = some (bkc b).size from by rw [bkc_size, hl]; exact (zero_of_info infoBk).2)
  have hB := below_new w (.cells (bkc b) 59)
  have HG := Lib.hid (blk_new w (.cells (bkc b) 59))
  have hK0 := hK.below hB hK.lt; have hH0 := hH.below hB hH.lt
  obtain ⟨i0, hi, hz0, hz1, hz2⟩ := info_parts info_u8
  have hmk : ∀ W : World, (Instr.makeSlice 38 (.int .i64 0) (.int .i64 ((n : Int) + 32))).run Tryd.prog W = .ok (.slice (some ⟨W.heap.size, 0, none⟩) 0 (n + 32)) (W.alloc (.cells (zerosN (n + 32)) 5)) := fun W => by
    have h := run_make (P := Tryd.prog) W 38 5 i0 (.int .u8 0) Tryd.underlying38 hi hz0 .i64 .i64 0 ((n : Int) + 32) (by omega) (by omega) (by rw [hz2]; omega) (by omega)
    rw [hz1, made_zero, show ((n : Int) + 32).toNat = n + 32 by omega, Nat.mul_one] at h
    simpa [zerosN] using h
  have hG1 : ((w.alloc (.cells (bkc b) 59)).alloc (.cells (zerosN (n + 32)) 5)).heap[w.heap.size + 1]? = some (.cells (outRow b info.data.toList n 0) 5) := by rw [outRow_zero]; exact blk_new2 w _ _
  have hB1 := below_new2 w (.cells (bkc b) 59) (.cells (zerosN (n + 32)) 5)
  have hG0 : ((w.alloc (.cells (bkc b) 59)).alloc (.cells (zerosN (n + 32)) 5)).heap[w.heap.size]? = some (.cells (bkc b) 59) := blk_old HG.out
  have hK1 := hK.below hB1 hK.lt; have hH1 := hH.below hB1 hH.lt
  have hgK := hK.lt; have hgH := hH.lt
  clear HG hB hK0 hH0
  have HG0 := Lib.hid hG0; have HG1 := Lib.hid hG1
  clear hG0 hG1
  go_enter Tryd.func63, Tryd.ntmps63
  go_wp2_with fail
  generalize ((w.alloc _).alloc _) = W at *
  generalize hBB : w.heap.size = B at *
  have HBB := Lib.hid hBB
  clear hBB hK hH hmk
  go_loopw [7, 8, 9] (fun o t u wr => ∃ i : Nat, 32 * i < n + 32 ∧ o = .slice (some ⟨B + 1, 0, none⟩) (32 * i) (n + 32) ∧ t = .string ⟨(tL b info.data.toList i).toArray⟩ ∧ u = .int .u8 (((i + 1) % 256 : Nat) : Int) ∧ wr.heap[B]? = some (.cells (bkc b) 59) ∧ wr.heap[B + 1]? = some (.cells (outRow b info.data.toList n i) 5) ∧ TabK wr kf ∧ TabH wr hf ∧ Below B w wr) (fun o _ _ _ => n + 32 - sliceLn o)
  case atStart => exact ⟨0, by omega, rfl, rfl, rfl, HG0.out, HG1.out, hK1, hH1, hB1⟩
  case round =>
    clear HG0 HG1 hK1 hH1 hB1
    obtain ⟨i, hin, rfl, rfl, rfl, hg0, hg1, hK1, hH1, hb⟩ := hrel
    have HG0 := Lib.hid hg0; have HG1 := Lib.hid hg1
    clear hg0 hg1
    by_cases hlt : 32 * i < n
    · have hd : decide (32 * (i : Int) < (n : Int)) = true := by simp; omega
      have hnum : (i + 1) % 256 = i + 1 := by omega
      rw [hnum]
      have hi255 : i < 255 := by omega
      have htl := tL_length b info.data.toList i
      have hts : (⟨(tL b info.data.toList i).toArray⟩ : ByteArray).size ≤ 32 := by rw [Lib.size_eq]; simpa using htl
      have HTn : Hid (tL b info.data.toList (i + 1) = code32 b (tL b info.data.toList i ++ info.data.toList ++ [UInt8.ofNat (i + 1)])) := Lib.hid rfl
      obtain ⟨x1, hx1⟩ : ∃ x1 : ByteArray, x1 = ⟨[UInt8.ofNat (i + 1)].toArray⟩ := ⟨_, rfl⟩
      have HD := Lib.hid (show (((⟨(tL b info.data.toList i).toArray⟩ : ByteArray) ++ info) ++ x1).data.toList = tL b info.data.toList i ++ info.data.toList ++ [UInt8.ofNat (i + 1)] from by rw [hx1]; simp)
      have hx1s : x1.size = 1 := by rw [hx1, Lib.size_eq]; rfl
      generalize (⟨(tL b info.data.toList i).toArray⟩ : ByteArray) = ts at *
      have hcv := run_string_row (wr.alloc (.cells #[.int .u8 ((i : Int) + 1)] 5)) wr.heap.size 1 [UInt8.ofNat (i + 1)] (fun j x hx => by
        have hj : j = 0 := by have := (List.getElem?_eq_some_iff.1 hx).1; simpa using this
        subst hj
        obtain rfl : UInt8.ofNat (i + 1) = x := by simpa using hx
        rw [cell_of_row _ _ _ _ _ _ (blk_new wr _)]
        have : (UInt8.ofNat (i + 1)).toNat = i + 1 := by simp; omega
        rw [this]; rfl)
      simp only [List.length_cons, List.length_nil, Nat.zero_add] at hcv
      rw [← hx1] at hcv
      have hlt0 := blk_lt HG0.out; have hlt1 := blk_lt HG1.out
      have hbn := below_new wr (.cells #[.int .u8 ((i : Int) + 1)] 5)
      have hKn := hK1.below hbn hK1.lt; have hHn := hH1.below hbn hH1.lt
      have hbw : Below B w (wr.alloc (.cells #[.int .u8 ((i : Int) + 1)] 5)) := hb.alloc (by omega) _
      have HGn0 := Lib.hid (blk_old (o := .cells #[.int .u8 ((i : Int) + 1)] 5) HG0.out)
      have HGn1 := Lib.hid (blk_old (o := .cells #[.int .u8 ((i : Int) + 1)] 5) HG1.out)
      clear hx1 hb hbn hK1 hH1
      go_wp2_with (with_reducible refine wpList_load_row rfl 59 _ rfl B rfl 59 _ (0, 0) _ HG0.out Tryd.underlying59 rfl HI.out ?_)
      clear hcv
      generalize (wr.alloc _) = Wn at *
      have hsd : (ts ++ info ++ x1).size ≤ 549755813888 := by rw [ByteArray.size_append, ByteArray.size_append]; omega
      refine (code32_any b (ts ++ info ++ x1) Wn hl hKn hHn hsd).mono ?_
      rintro e W5 ⟨rfl, hb5⟩
      rw [HD.out, ← HTn.out]
      have hltn0 := blk_lt HGn0.out; have hltn1 := blk_lt HGn1.out
      have HG50 := Lib.hid (blk_below hb5 hltn0 HGn0.out); have HG51 := Lib.hid (blk_below hb5 hltn1 HGn1.out)
      have hK5 := hKn.below hb5 hKn.lt; have hH5 := hHn.below hb5 hHn.lt
      have hbw5 : Below B w W5 := hbw.trans (hb5.mono (Nat.le_of_lt hltn0))
      have hto := outRow_append b info.data.toList n i (by omega) ⟨(tL b info.data.toList (i + 1)).toArray⟩ (by simp)
      have hts1 : (⟨(tL b info.data.toList (i + 1)).toArray⟩ : ByteArray).size = 32 := by rw [Lib.size_eq, HTn.out]; simp [code32_length]
      have hap := Lib.run_append_room_string (P := Tryd.prog) W5 38 9 38 5 i0 Tryd.underlying38 Tryd.underlying9 hi hz1 (B + 1) (32 * i) (n + 32) (outRow b info.data.toList n i) HG51.out ⟨(tL b info.data.toList (i + 1)).toArray⟩ (by omega) (by rw [outRow, bcells_size, List.length_append, outL_length, List.length_replicate]; omega)
      rw [hto, hts1] at hap
      have HTT : Hid ((⟨(tL b info.data.toList (i + 1)).toArray⟩ : ByteArray) = ⟨(tL b info.data.toList (i + 1)).toArray⟩) := Lib.hid rfl
      have HF0 := Lib.hid (show (W5.setRow (B + 1) (outRow b info.data.toList n (i + 1))).heap[B]? = some (.cells (bkc b) 59) from (setRow_other _ _ _ _ (by omega)).trans HG50.out)
      have HF1 := Lib.hid (show (W5.setRow (B + 1) (outRow b info.data.toList n (i + 1))).heap[B + 1]? = some (.cells (outRow b info.data.toList n (i + 1)) 5) from setRow_heap _ _ _ _ _ _ HG51.out)
      have hBF : Below B w (W5.setRow (B + 1) (outRow b info.data.toList n (i + 1))) := below_setRow hbw5 (by omega) _
      have hb55 : Below (B + 1) W5 (W5.setRow (B + 1) (outRow b info.data.toList n (i + 1))) := below_setRow (Below.refl _ _) (Nat.le_refl _) _
      clear HG0 HG1 HGn0 HGn1 HG50 HG51 hKn hHn hbw hb5 hto hbw5
      have HAP := Lib.hid hap
      clear hap
      go_wp2_with (at_builtin; refine wpList_append_run rfl (.tmp 28) (.tmp 29) 38 9 rfl _ _ _ _ rfl rfl HAP.out ?_)
      go_roundw
      case rel =>
        refine ⟨i + 1, by omega, by rw [Nat.mul_succ], rfl, ?_, HF0.out, HF1.out, hK5.below hb55 (Nat.lt_succ_of_lt hgK), hH5.below hb55 (Nat.lt_succ_of_lt hgH), hBF⟩
        exact congrArg (Value.int .u8) (by omega)
      case measure => simp [sliceLn]; omega
    · have hd : decide (32 * (i : Int) < (n : Int)) = false := by simp; omega
      have hii : (n + 31) / 32 = i := by omega
      have HE := Lib.hid (show expL b info.data.toList n = (outL b info.data.toList i).take n from by rw [expL, hii])
      have hel := expL_length b info.data.toList n
      have hcv := run_string_row wr (B + 1) (n + 32) (expL b info.data.toList n) (fun j x hx => by
        rw [cell_of_row _ _ _ _ _ _ HG1.out]
        rw [HE.out, List.getElem?_take] at hx
        split at hx
        · exact outRow_get _ _ _ _ _ _ hx
        · cases hx)
      rw [hel] at hcv
      clear hel hii HG0 HG1
      go_wp2_with fail
      go_ret
      exact ⟨rfl, by rw [HBB.out]; exact hb⟩

theorem expand_any (key info : ByteArray) (n : Nat) (w : World) (hK : TabK w kf) (hH : TabH w hf) (hk : key.size ≤ 1099511627776) (hs : info.size ≤ 274877906944) (hn : n ≤ 8160) :
    Calls Tryd.prog 44 #[.string key, .string info, .int .i64 (n : Int)] w fun e w' => e = .returned (.tuple #[.string ⟨(expL (blockL (keyOf32 key.data.toList)) info.data.toList n).toArray⟩, .int .i64 0]) ∧ Below w.heap.size w w' := by
  have HL := Lib.hid (blockL_length _ (Nat.le_trans (keyOf32_length key.data.toList) (by omega)))
  have hd1 : decide ((n : Int) < 0) = false := by simp
  have hd2 : decide ((8160 : Int) < (n : Int)) = false := by simp; omega
  go_enter Tryd.func44, Tryd.ntmps44
  go_wp2_with fail
  refine (blockKeyOf32 key w hK hH hk).mono ?_
  rintro e W1 ⟨rfl, hb1⟩
  generalize hbk : blockL (keyOf32 key.data.toList) = b at *
  have HBK := Lib.hid hbk
  clear hbk
  go_wp2_with fail
  refine (expanded_any b info n W1 HL.out (hK.below hb1 hK.lt) (hH.below hb1 hH.lt) hs hn).mono ?_
  rintro e W2 ⟨rfl, hb2⟩
  go_wp2_with fail
  go_ret2
  exact ⟨by rw [HBK.out]; rfl, hb1.trans (hb2.mono hb1.size)⟩
theorem expandNeg_any (key info : ByteArray) (n : Int) (w : World) (hn : n < 0) :
    Calls Tryd.prog 44 #[.string key, .string info, .int .i64 n] w fun e w' => e = .returned (.tuple #[.string ⟨#[]⟩, .int .i64 1]) ∧ Below w.heap.size w w' := by
  have hd1 : decide (n < 0) = true := by simp; omega
  go_enter Tryd.func44, Tryd.ntmps44
  go_wp2_with fail
  go_ret2
  exact ⟨rfl, Below.refl _ _⟩
theorem expandBig_any (key info : ByteArray) (n : Int) (w : World) (hn : 8160 < n) :
    Calls Tryd.prog 44 #[.string key, .string info, .int .i64 n] w fun e w' => e = .returned (.tuple #[.string ⟨#[]⟩, .int .i64 13]) ∧ Below w.heap.size w w' := by
  have hd1 : decide (n < 0) = false := by simp; omega
  have hd2 : decide ((8160 : Int) < n) = true := by simp; omega
  go_enter Tryd.func44, Tryd.ntmps44
  go_wp2_with fail
  go_ret2
  exact ⟨rfl, Below.refl _ _⟩
end

section
open Go.RowKit Go.Sort
set_option maxRecDepth 100000
set_option linter.unusedSimpArgs false
set_option linter.unusedVariables false

/-- The info by which Label asks Expand. -/
def tlsL : List UInt8 := [116, 108, 115, 49, 51, 32]
def labelL (label ctx : List UInt8) (n : Nat) : List UInt8 := [UInt8.ofNat (n / 256), UInt8.ofNat (n % 256), UInt8.ofNat (label.length + 6)] ++ (tlsL ++ label) ++ [UInt8.ofNat ctx.length] ++ ctx
theorem strCells_bytes (s : ByteArray) : Lib.strCells s = Lib.byteCells s.data.toList := rfl
theorem ofNat_cell (k : Nat) (h : k < 256) : ((UInt8.ofNat k).toNat : Int) = (k : Int) := by simp; omega
theorem label_cells (label ctx full : ByteArray) (n : Nat) (hf : full.data.toList = tlsL ++ label.data.toList) (hl : label.size ≤ 249) (hc : ctx.size ≤ 255) (hn : n ≤ 8160) :
    [Value.int .u8 ((n : Int) / 256), .int .u8 ((n : Int) % 256), .int .u8 ((label.size : Int) + 6)] ++ Lib.strCells full ++ [.int .u8 (ctx.size : Int)] ++ Lib.strCells ctx = Lib.byteCells (labelL label.data.toList ctx.data.toList n) := by
  have e1 := ofNat_cell (n / 256) (by omega); have e2 := ofNat_cell (n % 256) (by omega); have e3 := ofNat_cell (label.size + 6) (by omega); have e4 := ofNat_cell ctx.size (by omega)
  rw [labelL, Lib.byteCells_append, Lib.byteCells_append, Lib.byteCells_append, strCells_bytes, strCells_bytes, hf, ← Lib.size_eq, ← Lib.size_eq]
  congr 2
  · congr 1
    simp only [Lib.byteCells, List.map_cons, List.map_nil, e1, e2, e3]
    simp
  · simp only [Lib.byteCells, List.map_cons, List.map_nil, e4]
set_option maxHeartbeats 2000000 in
theorem labelInfo_any (label ctx : ByteArray) (n : Nat) (w : World) (hl : label.size ≤ 249) (hc : ctx.size ≤ 255) (hn : n ≤ 8160) :
    Calls Tryd.prog 45 #[.string label, .string ctx, .int .i64 (n : Int)] w fun e w' => e = .returned (.string ⟨(labelL label.data.toList ctx.data.toList n).toArray⟩) ∧ Below w.heap.size w w' := by
  obtain ⟨i0, hi, hz0, hz1, hz2⟩ := info_parts info_u8
  have HC := Lib.hid (label_cells label ctx ((⟨#[116, 108, 115, 49, 51, 32]⟩ : ByteArray) ++ label) n (by simp [tlsL]) hl hc hn)
  have hfs : ((⟨#[116, 108, 115, 49, 51, 32]⟩ : ByteArray) ++ label).size = label.size + 6 := by rw [ByteArray.size_append, Nat.add_comm]; rfl
  have HO0 := Lib.hid (show (w.alloc (.cells #[.int .u8 ((n : Int) / 256), .int .u8 ((n : Int) % 256), .int .u8 ((label.size : Int) + 6)] 5)).ownsRow w.heap.size 5 1 (.slice (some ⟨w.heap.size, 0, none⟩) 3 3) 3 [.int .u8 ((n : Int) / 256), .int .u8 ((n : Int) % 256), .int .u8 ((label.size : Int) + 6)] from
    ⟨rfl, .inr ⟨w.heap.size, 3, _, rfl, Nat.le_refl _, blk_new w _, by omega, by unfold maxLen; omega, rfl, rfl⟩⟩)
  have hB0 := below_new w (.cells #[.int .u8 ((n : Int) / 256), .int .u8 ((n : Int) % 256), .int .u8 ((label.size : Int) + 6)] 5)
  have hsz0 : w.heap.size ≤ (w.alloc (.cells #[.int .u8 ((n : Int) / 256), .int .u8 ((n : Int) % 256), .int .u8 ((label.size : Int) + 6)] 5)).heap.size := by simp
  go_enter Tryd.func45, Tryd.ntmps45
  go_wp2_with (at_builtin; refine Lib.wpList_append_own_string _ rfl (.tmp 20) (.tmp 21) 38 9 rfl w.heap.size 5 i0 Tryd.underlying38 Tryd.underlying9 hi hz0 hz1 hz2 (.slice (some ⟨w.heap.size, 0, none⟩) 3 3) 3 _ rfl HO0.out ((⟨#[116, 108, 115, 49, 51, 32]⟩ : ByteArray) ++ label) rfl ?a1 ?a2 ?a3 ?_)
  case a1 => unfold maxLen; omega
  case a2 => omega
  case a3 => exact hsz0
  intro v1 W1 hown1 hgrow1 _
  have hB1 : Below w.heap.size w W1 := hB0.grown hgrow1 hsz0 (by intro k hk; simp [Value.ownBlock] at hk; omega)
  have hsz1 : w.heap.size ≤ W1.heap.size := Nat.le_trans hsz0 hgrow1.size
  generalize ((⟨#[116, 108, 115, 49, 51, 32]⟩ : ByteArray) ++ label) = full at *
  have HO1 := Lib.hid (hown1.alloc (.cells #[.int .u8 (ctx.size : Int)] 5))
  clear HO0 hB0 hown1 hgrow1
  go_wp2_with (at_builtin; refine wpList_append_own _ rfl (.tmp 23) (.tmp 27) 38 rfl w.heap.size 5 i0 (.int .u8 0) 1 1 Tryd.underlying38 hi hz0 hz1 hz2 rfl (by omega) v1 (3 + (label.size + 6)) _ rfl HO1.out ⟨W1.heap.size, 0, none⟩ 1 1 [.int .u8 (ctx.size : Int)] rfl rfl (cell_one_new _ _ _) ?b2 ?b3 ?b4 ?b5 ?_)
  case b2 => intro u hu; simp at hu; subst hu; rfl
  case b3 => unfold maxLen; omega
  case b4 => omega
  case b5 => simp; omega
  intro v2 W2 hown2 hgrow2 _
  have hB2 : Below w.heap.size w W2 := (hB1.alloc hsz1 _).grown hgrow2 (by simp; omega) (fun k hk => (World.ownsRow.lt HO1.out k hk).1)
  have hsz2 : w.heap.size ≤ W2.heap.size := by have := hgrow2.size; simp at this; omega
  have HO2 := Lib.hid hown2
  clear HO1 hB1 hown2 hgrow2
  go_wp2_with (at_builtin; refine Lib.wpList_append_own_string _ rfl (.tmp 29) (.tmp 30) 38 9 rfl w.heap.size 5 i0 Tryd.underlying38 Tryd.underlying9 hi hz0 hz1 hz2 v2 (3 + (label.size + 6) + 1) _ rfl HO2.out ctx rfl ?c1 ?c2 ?c3 ?_)
  case c1 => unfold maxLen; omega
  case c2 => omega
  case c3 => exact hsz2
  intro v3 W3 hown3 hgrow3 _
  have hB3 : Below w.heap.size w W3 := hB2.grown hgrow3 hsz2 (fun k hk => (World.ownsRow.lt HO2.out k hk).1)
  have hxs := own_of_row hown3
  have e3 := HC.out
  simp only [List.cons_append, List.nil_append, List.append_assoc] at e3 hxs
  rw [e3] at hxs
  have hlen : (labelL label.data.toList ctx.data.toList n).length = 3 + (label.size + 6) + 1 + ctx.size := by have := hxs.2; rwa [Lib.byteCells_length] at this
  obtain ⟨g, cp, rfl, hoG, _⟩ := hxs.1.some (by rw [Lib.byteCells_length]; omega)
  have hcv := run_string_row W3 g cp (labelL label.data.toList ctx.data.toList n) (fun j x hx => hoG.cells j _ (by simp [Lib.byteCells, hx]))
  rw [Lib.byteCells_length]
  clear hoG hxs hown3 hgrow3 e3 HC HO2 hlen
  generalize hil : labelL label.data.toList ctx.data.toList n = il at *
  have HIL := Lib.hid hil
  clear hil
  go_wp2_with fail
  go_ret
  exact ⟨by rw [HIL.out]; rfl, hB3⟩
theorem labelNeg_any (key label ctx : ByteArray) (n : Int) (w : World) (hn : n < 0) :
    Calls Tryd.prog 28 #[.string key, .string label, .string ctx, .int .i64 n] w fun e w' => e = .returned (.tuple #[.string ⟨#[]⟩, .int .i64 1]) ∧ Below w.heap.size w w' := by
  have hd1 : decide (n < 0) = true := by simp; omega
  go_enter Tryd.func28, Tryd.ntmps28
  go_wp2_with fail
  go_ret2
  exact ⟨rfl, Below.refl _ _⟩
theorem labelBig_any (key label ctx : ByteArray) (n : Int) (w : World) (hn : ¬ n < 0) (hbig : 249 < label.size ∨ 255 < ctx.size ∨ 8160 < n) :
    Calls Tryd.prog 28 #[.string key, .string label, .string ctx, .int .i64 n] w fun e w' => e = .returned (.tuple #[.string ⟨#[]⟩, .int .i64 13]) ∧ Below w.heap.size w w' := by
  have hd1 : decide (n < 0) = false := by simp; omega
  by_cases h1 : 249 < label.size
  · have hd2 : decide ((249 : Int) < (label.size : Int)) = true := by simp; omega
    go_enter Tryd.func28, Tryd.ntmps28
    go_wp2_with fail
    go_ret2
    exact ⟨rfl, Below.refl _ _⟩
  have hd2 : decide ((249 : Int) < (label.size : Int)) = false := by simp; omega
  by_cases h2 : 255 < ctx.size
  · have hd3 : decide ((255 : Int) < (ctx.size : Int)) = true := by simp; omega
    go_enter Tryd.func28, Tryd.ntmps28
    go_wp2_with fail
    go_ret2
    exact ⟨rfl, Below.refl _ _⟩
  have hd3 : decide ((255 : Int) < (ctx.size : Int)) = false := by simp; omega
  have hd4 : decide ((8160 : Int) < n) = true := by simp; omega
  go_enter Tryd.func28, Tryd.ntmps28
  go_wp2_with fail
  go_ret2
  exact ⟨rfl, Below.refl _ _⟩
set_option maxHeartbeats 1000000 in
theorem label_any (key label ctx : ByteArray) (n : Nat) (w : World) (hK : TabK w kf) (hH : TabH w hf) (hk : key.size ≤ 1000000) (hl : label.size ≤ 249) (hc : ctx.size ≤ 255) (hn : n ≤ 8160) :
    Calls Tryd.prog 28 #[.string key, .string label, .string ctx, .int .i64 (n : Int)] w fun e w' => e = .returned (.tuple #[.string ⟨(expL (blockL (keyOf32 key.data.toList)) (labelL label.data.toList ctx.data.toList n) n).toArray⟩, .int .i64 0]) ∧ Below w.heap.size w w' := by
  have hd1 : decide ((n : Int) < 0) = false := by simp
  have hd2 : decide ((249 : Int) < (label.size : Int)) = false := by simp; omega
  have hd3 : decide ((255 : Int) < (ctx.size : Int)) = false := by simp; omega
  have hd4 : decide ((8160 : Int) < (n : Int)) = false := by simp; omega
  have hll : (labelL label.data.toList ctx.data.toList n).length ≤ 1000 := by simp only [labelL, tlsL, List.length_append, List.length_cons, List.length_nil]; rw [← Lib.size_eq, ← Lib.size_eq]; omega
  have H1 := Lib.hid (labelInfo_any label ctx n w hl hc hn)
  generalize hil : labelL label.data.toList ctx.data.toList n = il at *
  have HIL := Lib.hid hil
  clear hil
  go_enter Tryd.func28, Tryd.ntmps28
  go_wp2_with fail
  refine H1.out.mono ?_
  rintro e W1 ⟨rfl, hb1⟩
  clear H1
  have h2 := expand_any key ⟨il.toArray⟩ n W1 (hK.below hb1 hK.lt) (hH.below hb1 hH.lt) (by omega) (by rw [Lib.size_eq]; simp; omega) hn
  simp only [List.toList_toArray] at h2
  have H2 := Lib.hid h2
  clear h2
  go_wp2_with fail
  refine H2.out.mono ?_
  rintro e W2 ⟨rfl, hb2⟩
  go_wp2_with fail
  go_ret2
  exact ⟨rfl, hb1.trans (hb2.mono hb1.size)⟩
end
end Go.Proofs.YtjjgakkijhjaiaaDoor
