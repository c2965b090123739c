/- Nonces, and bytes sealed by suite 4867, as the document tells them, on lists of bytes. Arithmetic alone; The program's small functions of package seal: Size, Nonce, filler, length; The program's filler, length and tagged: what a tag stands for; The program's xored, tag, chachaSeal and chachaOpen; The program's Seal and Open, by whatever suite. -/
import Derived.Test.YtffnafikegakcaaGreatDoorGcmA
import Derived.Test.YtffnafikegakcaaGreatDoorChaA
import Derived.Test.YtffnafikegakcaaGreatDoorPolyR
import Derived.Test.YtffnafikegakcaaGreatDoorGcmP
import Derived.Test.YtffnafikegakcaaGreatDoorRep
import Derived.Test.YtffnafikegakcaaGreatDoorChaP
import Derived.Test.YtffnafikegakcaaGreatDoorPolyP
namespace Go.Proofs.YtffnafikegakcaaGreatDoor
section
open Go.RowKit
set_option maxRecDepth 100000
set_option linter.unusedSimpArgs false
set_option linter.unusedVariables false

/-- How many bytes a suite's keys have. -/
def sizeS (n : Int) : Int := if n = 4865 then 16 else if n = 4867 then 32 else 0
/-- How many bytes a text has, the least byte first. -/
def lenS (n : Nat) : List UInt8 := (List.range 8).map fun i => wbyte (n : Int) (8 * i)
theorem lenS_length (n : Nat) : (lenS n).length = 8 := by simp [lenS]
theorem lenS_getD (n i : Nat) (h : i < 8) : (lenS n).getD i 0 = wbyte (n : Int) (8 * i) := by rw [lenS, range_getD _ _ _ h]
/-- What a tag stands for. -/
def tagT (beside hidden : List UInt8) : List UInt8 := padG beside ++ padG hidden ++ lenS beside.length ++ lenS hidden.length
theorem tagT_length (beside hidden : List UInt8) : (tagT beside hidden).length = (beside.length + 15) / 16 * 16 + (hidden.length + 15) / 16 * 16 + 16 := by
  simp only [tagT, List.length_append, padG_length, lenS_length]
theorem polyTag_size (k d : List UInt8) : (polyTag k d).length = 16 := leOut_length _ _
def tagS (key nonce beside hidden : List UInt8) : List UInt8 := polyTag ((chaB key nonce 0).take 32) (tagT beside hidden)
theorem tagS_length (key nonce beside hidden : List UInt8) : (tagS key nonce beside hidden).length = 16 := polyTag_size _ _
/-- A text with the key's stream. -/
def hidS (key nonce text : List UInt8) : List UInt8 := chaX key nonce 1 text text.length
theorem hidS_length (key nonce text : List UInt8) : (hidS key nonce text).length = text.length := chaX_length _ _ _ _ _
theorem hidS_twice (key nonce text : List UInt8) : hidS key nonce (hidS key nonce text) = text := by
  rw [hidS, hidS_length, hidS]; exact chaX_twice key nonce 1 text
def sealS (key nonce beside plain : List UInt8) : List UInt8 := hidS key nonce plain ++ tagS key nonce beside (hidS key nonce plain)
theorem sealS_length (key nonce beside plain : List UInt8) : (sealS key nonce beside plain).length = plain.length + 16 := by rw [sealS, List.length_append, hidS_length, tagS_length]
/-- What is opened: nothing where the tag is another one. -/
def tagOkS (key nonce beside sealed : List UInt8) : Bool := tagS key nonce beside (sealed.take (sealed.length - 16)) == sealed.drop (sealed.length - 16)
def openS (key nonce beside sealed : List UInt8) : List UInt8 := hidS key nonce (sealed.take (sealed.length - 16))
theorem sealS_take (k n b p : List UInt8) : (sealS k n b p).take ((sealS k n b p).length - 16) = hidS k n p := by
  rw [sealS_length, Nat.add_sub_cancel, sealS, List.take_append_of_le_length (by rw [hidS_length]; exact Nat.le_refl _), List.take_of_length_le (by rw [hidS_length]; exact Nat.le_refl _)]
theorem sealS_drop (k n b p : List UInt8) : (sealS k n b p).drop ((sealS k n b p).length - 16) = tagS k n b (hidS k n p) := by
  rw [sealS_length, Nat.add_sub_cancel, sealS, List.drop_append_of_le_length (by rw [hidS_length]; exact Nat.le_refl _), List.drop_of_length_le (by rw [hidS_length]; exact Nat.le_refl _), List.nil_append]
theorem tagOkS_seal (k n b p : List UInt8) : tagOkS k n b (sealS k n b p) = true := by rw [tagOkS, sealS_take, sealS_drop]; simp
theorem openS_seal (k n b p : List UInt8) : openS k n b (sealS k n b p) = p := by rw [openS, sealS_take, hidS_twice]
theorem tagOkS_set (k n b s : List UInt8) (p : Nat) (x : UInt8) (h1 : s.length - 16 ≤ p) (h2 : p < s.length) (hx : x ≠ s.getD p 0) (hok : tagOkS k n b s = true) : tagOkS k n b (s.set p x) = false := by
  rw [tagOkS, List.length_set, List.take_set_of_le h1]
  simp only [tagOkS, beq_iff_eq] at hok
  rw [hok]
  have hne : ¬ s.drop (s.length - 16) = (s.set p x).drop (s.length - 16) := fun h => by
    have h3 := congrArg (fun l : List UInt8 => l[p - (s.length - 16)]?) h
    simp only [List.getElem?_drop] at h3
    rw [show s.length - 16 + (p - (s.length - 16)) = p by omega, List.getElem?_set_self h2] at h3
    exact hx (by rw [List.getD_eq_getElem?_getD, h3]; rfl)
  simpa using hne

/-- A nonce, made byte by byte from the last on. -/
def nonS (iv : List UInt8) (n : Nat) : Nat → List UInt8
  | 0 => iv
  | k + 1 => (nonS iv n k).set (11 - k) ((nonS iv n k).getD (11 - k) 0 ^^^ wbyte (n : Int) (8 * k))
theorem nonS_length (iv : List UInt8) (n k : Nat) : (nonS iv n k).length = iv.length := by
  induction k with
  | zero => rfl
  | succ k ih => rw [nonS, List.length_set, ih]
theorem nonS_get (iv : List UInt8) (n : Nat) (hl : iv.length = 12) : ∀ k, k ≤ 12 → ∀ j, j < 12 → (nonS iv n k).getD j 0 = if 12 - k ≤ j then iv.getD j 0 ^^^ wbyte (n : Int) (8 * (11 - j)) else iv.getD j 0 := by
  intro k
  induction k with
  | zero => intro _ j hj; rw [if_neg (by omega)]; rfl
  | succ k ih =>
    intro hk j hj
    rw [nonS, List.getD_eq_getElem?_getD, List.getElem?_set]
    by_cases h : 11 - k = j
    · rw [if_pos h, if_pos (by rw [nonS_length]; omega), if_pos (by omega), h, ih (by omega) j hj, if_neg (by omega)]
      rw [show 11 - j = k by omega]; rfl
    · rw [if_neg h, ← List.getD_eq_getElem?_getD, ih (by omega) j hj]
      by_cases h2 : 12 - k ≤ j
      · rw [if_pos h2, if_pos (by omega)]
      · rw [if_neg h2, if_neg (by omega)]
theorem wbyte_eq (m n s : Nat) (h : wbyte (m : Int) s = wbyte (n : Int) s) : m / 2 ^ s % 256 = n / 2 ^ s % 256 := by
  have h1 := wbyte_toNat (m : Int) s
  have h2 := wbyte_toNat (n : Int) s
  rw [h, h2] at h1
  have e : ∀ x : Nat, ((x : Int) / 2 ^ s % 256) = ((x / 2 ^ s % 256 : Nat) : Int) := fun x => by simp
  rw [e, e] at h1
  omega
theorem xor_can_left (a b c : UInt8) (h : a ^^^ b = a ^^^ c) : b = c := by
  have e : a ^^^ (a ^^^ b) = a ^^^ (a ^^^ c) := by rw [h]
  rwa [← UInt8.xor_assoc, ← UInt8.xor_assoc, UInt8.xor_self, UInt8.zero_xor, UInt8.zero_xor] at e
/-- Unlike numbers have unlike nonces. -/
theorem nonS_inj (iv : List UInt8) (m n : Nat) (hl : iv.length = 12) (hm : m < 9223372036854775808) (hn : n < 9223372036854775808) (h : nonS iv m 8 = nonS iv n 8) : m = n := by
  have H : ∀ i, i < 8 → m / 2 ^ (8 * i) % 256 = n / 2 ^ (8 * i) % 256 := fun i hi => by
    have h1 := nonS_get iv m hl 8 (by omega) (11 - i) (by omega)
    have h2 := nonS_get iv n hl 8 (by omega) (11 - i) (by omega)
    rw [if_pos (by omega), show 11 - (11 - i) = i by omega] at h1 h2
    rw [h, h2] at h1
    exact wbyte_eq m n (8 * i) (xor_can_left _ _ _ h1.symm)
  have a0 := H 0 (by omega); have a1 := H 1 (by omega); have a2 := H 2 (by omega); have a3 := H 3 (by omega)
  have a4 := H 4 (by omega); have a5 := H 5 (by omega); have a6 := H 6 (by omega); have a7 := H 7 (by omega)
  simp only [Nat.reduceMul, Nat.reducePow] at a0 a1 a2 a3 a4 a5 a6 a7
  omega
theorem example_nonce : ((nonS (List.replicate 12 0) 258 8).drop 10 == [1, 2]) = true := by decide +kernel
end

section
open Go.RowKit Go.Sort
set_option maxRecDepth 100000
set_option linter.unusedSimpArgs false
set_option linter.unusedVariables false

set_option maxHeartbeats 1000000 in
theorem sSize_any (n : Int) (w : World) :
    Calls Tryz.prog 19 #[.int .i64 n] w fun e w' => e = .returned (.int .i64 (sizeS n)) ∧ w = w' := by
  by_cases h1 : n = 4865
  · subst h1
    go_enter Tryz.func19, Tryz.ntmps19
    go_wp2_with fail
    go_ret
    exact ⟨rfl, rfl⟩
  · have d1 : (n == 4865) = false := by simpa using h1
    by_cases h2 : n = 4867
    · subst h2
      go_enter Tryz.func19, Tryz.ntmps19
      go_wp2_with fail
      go_ret
      exact ⟨rfl, rfl⟩
    · have d2 : (n == 4867) = false := by simpa using h2
      have HS : Hid (sizeS n = 0) := Lib.hid (by rw [sizeS, if_neg h1, if_neg h2])
      rw [HS.out]
      go_enter Tryz.func19, Tryz.ntmps19
      go_wp2_with fail
      go_ret
      exact ⟨rfl, rfl⟩

set_option maxHeartbeats 1000000 in
theorem sNonceKey_any (iv : ByteArray) (n : Int) (w : World) (hs : iv.size ≠ 12) :
    Calls Tryz.prog 43 #[.string iv, .int .i64 n] w fun e w' => e = .returned (.tuple #[.string ⟨#[]⟩, .int .i64 21]) ∧ w = w' := by
  have d1 : ((iv.size : Int) != 12) = true := by simp; omega
  go_enter Tryz.func43, Tryz.ntmps43
  go_wp2_with fail
  go_ret2
  exact ⟨rfl, rfl⟩
set_option maxHeartbeats 1000000 in
theorem sNonceArg_any (iv : ByteArray) (n : Int) (w : World) (hs : iv.size = 12) (hn : n < 0) :
    Calls Tryz.prog 43 #[.string iv, .int .i64 n] w fun e w' => e = .returned (.tuple #[.string ⟨#[]⟩, .int .i64 1]) ∧ w = w' := by
  have d1 : ((iv.size : Int) != 12) = false := by simp; omega
  have d2 : decide (n < 0) = true := by simp; omega
  go_enter Tryz.func43, Tryz.ntmps43
  go_wp2_with fail
  go_ret2
  exact ⟨rfl, rfl⟩

theorem sown_at {W : World} {base g cap : Nat} {l : List UInt8} (h : OwnS W base g cap (Lib.byteCells l)) (j : Nat) (hj : j < l.length) : W.cell? ⟨g, j, none⟩ = some (.int .u8 ((l.getD j 0).toNat : Int)) := h.cells j _ (by simp [Lib.byteCells, List.getElem?_eq_getElem hj, List.getD_eq_getElem?_getD])
theorem non_byte (n k : Nat) (x : UInt8) : bits .xor .u8 (x.toNat : Int) ((n : Int) / 2 ^ (8 * k) % 256) = ((x ^^^ wbyte (n : Int) (8 * k)).toNat : Int) := by
  rw [← wbyte_toNat, au8x]

set_option maxHeartbeats 2000000 in
theorem sNonce_any (iv : ByteArray) (n : Nat) (w : World) (hs : iv.size = 12) (hn : n < 9223372036854775808) :
    Calls Tryz.prog 43 #[.string iv, .int .i64 (n : Int)] w fun e w' => e = .returned (.tuple #[.string ⟨(nonS iv.data.toList n 8).toArray⟩, .int .i64 0]) ∧ Below w.heap.size w w' := by
  have d1 : ((iv.size : Int) != 12) = false := by simp; omega
  have d2 : decide ((n : Int) < 0) = false := by simp
  have HL : Hid (iv.data.toList.length = 12) := Lib.hid (by rw [← Lib.size_eq]; exact hs)
  obtain ⟨cap, hcv, hown, hbo⟩ := run_convert_string_bytes_at iv w
  rw [hs] at hcv
  clear hs
  go_enter Tryz.func43, Tryz.ntmps43
  go_wp2_with fail
  have HO := Lib.hid hown; have HB := Lib.hid hbo
  clear hown hbo hcv
  generalize (Lib.bytesWorld _ _ _) = W0 at *
  go_loopw [17] (fun i wr => ∃ k : Nat, k ≤ 8 ∧ i = .int .i64 (k : Int) ∧ OwnS wr w.heap.size w.heap.size cap (Lib.byteCells (nonS iv.data.toList n k)) ∧ Below w.heap.size w wr) (fun i _ => 8 - (intOf i).toNat)
  case atStart => exact ⟨0, by omega, rfl, HO.out, HB.out⟩
  case round =>
    obtain ⟨k, hk, rfl, hown, hb⟩ := hrel
    have HC : Hid ((nonS iv.data.toList n k).length = 12) := Lib.hid (by rw [nonS_length]; exact HL.out)
    by_cases hlt : k < 8
    · have hd : decide ((k : Int) < 8) = true := by simp; omega
      have cp := sown_at hown (11 - k) (by rw [HC.out]; omega)
      have hpl : 11 - k < (Lib.byteCells (nonS iv.data.toList n k)).length := by rw [Lib.byteCells_length, HC.out]; omega
      have fp := (hown.room (11 - k) (Nat.lt_of_lt_of_le hpl hown.le)).2
      have e1 : ((11 : Int) - (k : Int)).toNat = 11 - k := by omega
      have e2 : (8 * (k : Int)).toNat = 8 * k := by omega
      have HX := Lib.hid (non_byte n k ((nonS iv.data.toList n k).getD (11 - k) 0))
      have HN : Hid ((Lib.byteCells (nonS iv.data.toList n k)).set (11 - k) (.int .u8 (((nonS iv.data.toList n k).getD (11 - k) 0 ^^^ wbyte (n : Int) (8 * k)).toNat : Int)) = Lib.byteCells (nonS iv.data.toList n (k + 1))) := Lib.hid (by
        rw [Lib.byteCells, ← List.map_set (f := fun x : UInt8 => Value.int .u8 (x.toNat : Int))]; rfl)
      rw [← HX.out] at HN
      have HPL := Lib.hid hpl
      have hgl : w.heap.size < wr.heap.size := hown.lt (by have := hown.le; omega)
      have HOW := Lib.hid hown
      clear hpl hown HO HB
      generalize (nonS iv.data.toList n k).getD (11 - k) 0 = x at *
      go_wp2_with fail
      have q1 := cell_regrown cp
      refine wp_region_reads_tail 13 (by kernel_rfl) (by kernel_rfl) ?_
      simp only [List.take_succ_cons, List.take_zero, List.drop_succ_cons, List.drop_zero]
      repeat (first | go_big_quiet_step (fail) | quiet_step (fail))
      refine wpQuiet_nil ?_
      intro W4 hb4
      have hOS4 := HOW.out.keep (hb4.block w.heap.size hgl)
      have c4 : W4.cell? ⟨w.heap.size, 11 - k, none⟩ = some (.int .u8 (x.toNat : Int)) := (hb4.cell (p := ⟨w.heap.size, 11 - k, none⟩) hgl).trans cp
      have f4 : W4.frozen? ⟨w.heap.size, 11 - k, none⟩ = false := (hb4.frozen (p := ⟨w.heap.size, 11 - k, none⟩) hgl).trans fp
      have hput := hOS4.put (11 - k) HPL.out (.int .u8 (bits .xor .u8 (x.toNat : Int) ((n : Int) / 2 ^ (8 * k) % 256)))
      rw [HN.out] at hput
      have hb5 : Below w.heap.size w (W4.setCell ⟨w.heap.size, 11 - k, none⟩ (.int .u8 (bits .xor .u8 (x.toNat : Int) ((n : Int) / 2 ^ (8 * k) % 256)))) := (hb.trans (hb4.mono (by omega))).setCell (by simp) _
      have HP := Lib.hid hput
      clear q1 hb4 hb hput hOS4 HN HX HOW cp fp hgl
      go_wp2_with fail
      go_roundw
      case rel => exact ⟨k + 1, by omega, by go_num, HP.out, hb5⟩
      case measure => simp [intOf]; omega
    · have hd : decide ((k : Int) < 8) = false := by simp; omega
      obtain rfl : k = 8 := by omega
      have hcv := run_string_at wr w.heap.size 0 cap 12 (nonS iv.data.toList n 8) HC.out (fun j x hx => by
        rw [Nat.zero_add]
        exact hown.cells j _ (by simp [Lib.byteCells, hx]))
      clear hown HO HB
      go_wp2_with fail
      go_ret2
      exact ⟨rfl, hb⟩
end

section
open Go.RowKit Go.Sort
set_option maxRecDepth 100000
set_option linter.unusedSimpArgs false
set_option linter.unusedVariables false

def fillN (n : Nat) : Nat := (16 - n % 16) % 16
set_option maxHeartbeats 1000000 in
theorem sfiller_any (s : ByteArray) (w : World) (hs : s.size ≤ 1099511627776) :
    Calls Tryz.prog 125 #[.string s] w fun e w' => e = .returned (.string ⟨(List.replicate (fillN s.size) (0 : UInt8)).toArray⟩) ∧ Below w.heap.size w w' := by
  obtain ⟨c, hc⟩ : ∃ c, c = fillN s.size := ⟨_, rfl⟩
  have hc2 : c < 16 := by rw [hc, fillN]; omega
  have e1 : ((16 : Int) - (s.size : Int) % 16) % 16 = (c : Int) := by rw [hc, fillN]; omega
  have HR := Lib.hid (fun W => Tryz.strings_Repeat ⟨#[0]⟩ c W (by omega) (by show 1 * c ≤ _; omega))
  have HE : Hid (Lib.repeatL (⟨#[0]⟩ : ByteArray).data.toList c = List.replicate (fillN s.size) 0) := Lib.hid (by
    have h := Lib.repeatL_replicate 0 1 c
    rw [Nat.mul_one] at h
    rw [← hc]
    exact h)
  rw [HE.out] at HR
  have e2 : ((16 : Int) - (s.size : Int) % 16).tmod 16 = (c : Int) := by rw [Int.tmod_eq_emod_of_nonneg (by omega)]; exact e1
  clear HE hc
  go_enter Tryz.func125, Tryz.ntmps125
  go_wp2_with fail
  refine (HR.out w).mono ?_
  rintro e W ⟨rfl, hb⟩
  go_wp2_with fail
  go_ret
  exact ⟨rfl, hb⟩

/-- So many of the eight bytes. -/
def lenQ (n k : Nat) : List UInt8 := (List.range 8).map fun i => if i < k then wbyte (n : Int) (8 * i) else 0
theorem lenQ_length (n k : Nat) : (lenQ n k).length = 8 := by simp [lenQ]
theorem lenQ_full (n : Nat) : lenQ n 8 = lenS n := bytes_ext (lenQ_length n 8) (lenS_length n) fun i hi => by
  rw [lenQ, range_getD _ _ _ hi, lenS_getD n i hi, if_pos hi]
theorem lenQ_set (n k : Nat) (h : k < 8) : (lenQ n k).set k (wbyte (n : Int) (8 * k)) = lenQ n (k + 1) := bytes_ext (n := 8) (by rw [List.length_set, lenQ_length]) (lenQ_length _ _) fun i hi => by
  rw [List.getD_eq_getElem?_getD, List.getElem?_set]
  by_cases hik : k = i
  · subst hik
    rw [if_pos rfl, if_pos (by rw [lenQ_length]; exact h), lenQ, range_getD _ _ _ hi, if_pos (by omega)]; rfl
  · rw [if_neg hik, ← List.getD_eq_getElem?_getD, lenQ, lenQ, range_getD _ _ _ hi, range_getD _ _ _ hi]
    by_cases h2 : i < k
    · rw [if_pos h2, if_pos (by omega)]
    · rw [if_neg h2, if_neg (by omega)]
def bz8 : Array Value := bcells (lenQ 0 0)
theorem info8 : (Tryz.prog.info? 181).map (fun i => (i.zero, i.size)) = some (some (.agg bz8), 8) := by kernel_rfl
theorem lenQ_zero (n : Nat) : bz8 = bcells (lenQ n 0) := rfl

set_option maxHeartbeats 1000000 in
theorem slength_any (s : ByteArray) (w : World) (hs : s.size ≤ 1099511627776) :
    Calls Tryz.prog 126 #[.string s] w fun e w' => e = .returned (.string ⟨(lenS s.size).toArray⟩) ∧ Below w.heap.size w w' := by
  obtain ⟨hz8, hi8⟩ := zero_of_info info8
  have HG0 : Hid ((w.alloc (.cells bz8 181)).heap[w.heap.size]? = some (.cells (bcells (lenQ s.size 0)) 181)) := Lib.hid (blk_new w (.cells bz8 181))
  have HB0 := Lib.hid (below_new w (.cells bz8 181))
  have sl := arr_sliced_all 181 8 w.heap.size (by kernel_rfl) (by kernel_rfl) (by kernel_rfl) (by omega)
  obtain ⟨n, hn⟩ : ∃ n, n = s.size := ⟨_, rfl⟩
  have hn2 : (s.size : Int) = (n : Int) := by rw [hn]
  rw [← hn] at HG0 hs
  rw [← hn]
  clear hi8 hn
  go_enter Tryz.func126, Tryz.ntmps126
  go_wp2_with fail
  generalize (World.alloc w _) = W0 at *
  go_loopw [5] (fun i wr => ∃ k : Nat, k ≤ 8 ∧ i = .int .i64 (k : Int) ∧ wr.heap[w.heap.size]? = some (.cells (bcells (lenQ n k)) 181) ∧ Below w.heap.size w wr) (fun i _ => 8 - (intOf i).toNat)
  case atStart => exact ⟨0, by omega, rfl, HG0.out, HB0.out⟩
  case round =>
    clear HG0 HB0
    obtain ⟨k, hk, rfl, hg, hb⟩ := hrel
    have HG := Lib.hid hg
    clear hg
    by_cases hlt : k < 8
    · have hd : decide ((k : Int) < 8) = true := by simp; omega
      have hj : k < (lenQ n k).length := by rw [lenQ_length]; omega
      have hx : wr.cell? ⟨w.heap.size, k, none⟩ = some (.int .u8 ((lenQ n k)[k].toNat : Int)) := by rw [cell_of_row wr _ _ _ _ _ HG.out]; exact bcells_get _ _ _ (List.getElem?_eq_getElem hj)
      have hf : wr.frozen? ⟨w.heap.size, k, none⟩ = false := frozen_of_row wr _ _ _ _ HG.out
      generalize ((lenQ n k)[k].toNat : Int) = x at hx
      have HS := Lib.hid (show ∀ x : Int, x = (n : Int) / 2 ^ (8 * k) % 256 → (wr.setCell ⟨w.heap.size, k, none⟩ (.int .u8 x)).heap[w.heap.size]? = some (.cells (bcells (lenQ n (k + 1))) 181) from by
        rintro x rfl
        rw [← wbyte_toNat (n : Int) (8 * k), ← lenQ_set n k hlt, ← bcells_set]
        exact Go.heap_setCell_same _ _ _ _ _ _ HG.out)
      have e8 : (8 * (k : Int)).toNat = 8 * k := by omega
      have n8 : (0 : Int) ≤ 8 * (k : Int) := by omega
      have hb2 : ∀ x : Int, Below w.heap.size w (wr.setCell ⟨w.heap.size, k, none⟩ (.int .u8 x)) := fun x => hb.setCell (by simp) _
      go_wp2_with fail
      go_roundw
      case rel => exact ⟨k + 1, by omega, by go_num, HS.out _ (by simp), hb2 _⟩
      case measure => simp [intOf]; omega
    · have hd : decide ((k : Int) < 8) = false := by simp; omega
      obtain rfl : k = 8 := by omega
      have hcv := run_string_row wr w.heap.size 8 (lenQ n 8) (cells_of_bcells HG.out)
      rw [lenQ_length] at hcv
      have HL := Lib.hid (lenQ_full n)
      go_wp2_with fail
      go_ret
      exact ⟨by rw [← HL.out]; rfl, hb⟩

theorem tagged_bytes (b h : ByteArray) : b ++ ⟨(List.replicate (fillN b.size) (0 : UInt8)).toArray⟩ ++ h ++ ⟨(List.replicate (fillN h.size) (0 : UInt8)).toArray⟩ ++ ⟨(lenS b.size).toArray⟩ ++ ⟨(lenS h.size).toArray⟩ = (⟨(tagT b.data.toList h.data.toList).toArray⟩ : ByteArray) := by
  apply ByteArray.ext
  simp only [ByteArray.data_append]
  apply Array.ext'
  simp only [Array.toList_append, List.toList_toArray, tagT, padG, fillN, ← Lib.size_eq, List.append_assoc]

set_option maxHeartbeats 1000000 in
theorem stagged_any (b h : ByteArray) (w : World) (hb : b.size ≤ 1073741824) (hh : h.size ≤ 1073741824) :
    Calls Tryz.prog 97 #[.string b, .string h] w fun e w' => e = .returned (.string ⟨(tagT b.data.toList h.data.toList).toArray⟩) ∧ Below w.heap.size w w' := by
  have HF1 := Lib.hid (fun W => sfiller_any b W (by omega))
  have HF2 := Lib.hid (fun W => sfiller_any h W (by omega))
  have HL1 := Lib.hid (fun W => slength_any b W (by omega))
  have HL2 := Lib.hid (fun W => slength_any h W (by omega))
  have HE := Lib.hid (tagged_bytes b h)
  have z1 : (⟨(List.replicate (fillN b.size) (0 : UInt8)).toArray⟩ : ByteArray).size < 16 := by show (List.replicate _ _).length < 16; rw [List.length_replicate, fillN]; omega
  have z2 : (⟨(List.replicate (fillN h.size) (0 : UInt8)).toArray⟩ : ByteArray).size < 16 := by show (List.replicate _ _).length < 16; rw [List.length_replicate, fillN]; omega
  have z3 : (⟨(lenS b.size).toArray⟩ : ByteArray).size = 8 := lenS_length _
  have z4 : (⟨(lenS h.size).toArray⟩ : ByteArray).size = 8 := lenS_length _
  generalize (⟨(List.replicate (fillN b.size) (0 : UInt8)).toArray⟩ : ByteArray) = f1 at *
  generalize (⟨(List.replicate (fillN h.size) (0 : UInt8)).toArray⟩ : ByteArray) = f2 at *
  generalize (⟨(lenS b.size).toArray⟩ : ByteArray) = l1 at *
  generalize (⟨(lenS h.size).toArray⟩ : ByteArray) = l2 at *
  generalize (⟨(tagT b.data.toList h.data.toList).toArray⟩ : ByteArray) = t at *
  have q1 : (b ++ f1).size ≤ 1073741840 := by rw [ByteArray.size_append]; omega
  have q2 : (b ++ f1 ++ h).size ≤ 2147483664 := by rw [ByteArray.size_append]; omega
  have q3 : (b ++ f1 ++ h ++ f2).size ≤ 2147483680 := by rw [ByteArray.size_append]; omega
  have q4 : (b ++ f1 ++ h ++ f2 ++ l1).size ≤ 2147483688 := by rw [ByteArray.size_append]; omega
  go_enter Tryz.func97, Tryz.ntmps97
  go_wp2_with fail
  refine (HF1.out w).mono ?_
  rintro e W1 ⟨rfl, hb1⟩
  go_wp2_with fail
  refine (HF2.out W1).mono ?_
  rintro e W2 ⟨rfl, hb2⟩
  have hb3 := hb1.trans (hb2.mono hb1.size)
  clear hb1 hb2
  go_wp2_with fail
  refine (HL1.out W2).mono ?_
  rintro e W3 ⟨rfl, hb4⟩
  have hb5 := hb3.trans (hb4.mono hb3.size)
  clear hb3 hb4
  go_wp2_with fail
  refine (HL2.out W3).mono ?_
  rintro e W4 ⟨rfl, hb6⟩
  go_wp2_with fail
  go_ret
  exact ⟨by rw [← HE.out]; rfl, hb5.trans (hb6.mono hb5.size)⟩
end

section
open Go.RowKit Go.Sort
set_option maxRecDepth 100000
set_option linter.unusedSimpArgs false
set_option linter.unusedVariables false

set_option maxHeartbeats 1000000 in
theorem sxored_any (key nonce text : ByteArray) (w : World) (hk : key.size = 32) (hn : nonce.size = 12) (hs : text.size ≤ 1073741824) :
    Calls Tryz.prog 63 #[.string key, .string nonce, .string text] w fun e w' => e = .returned (.string ⟨(hidS key.data.toList nonce.data.toList text.data.toList).toArray⟩) ∧ Below w.heap.size w w' := by
  have HX := Lib.hid (ownXor_any key nonce 1 text w hk hn (by omega) hs (by omega))
  rw [show chaX key.data.toList nonce.data.toList 1 text.data.toList text.size = hidS key.data.toList nonce.data.toList text.data.toList from by rw [hidS, Lib.size_eq]] at HX
  generalize (⟨(hidS key.data.toList nonce.data.toList text.data.toList).toArray⟩ : ByteArray) = r at *
  go_enter Tryz.func63, Tryz.ntmps63
  go_wp2_with fail
  refine HX.out.mono ?_
  rintro e W1 ⟨rfl, hb1⟩
  go_wp2_with fail
  go_ret
  exact ⟨rfl, hb1⟩

set_option maxHeartbeats 1000000 in
theorem stag_any (key nonce beside hidden : ByteArray) (w : World) (hk : key.size = 32) (hn : nonce.size = 12) (h1 : beside.size ≤ 1073741824) (h2 : hidden.size ≤ 1073741824) :
    Calls Tryz.prog 64 #[.string key, .string nonce, .string beside, .string hidden] w fun e w' => e = .returned (.string ⟨(tagS key.data.toList nonce.data.toList beside.data.toList hidden.data.toList).toArray⟩) ∧ Below w.heap.size w w' := by
  have HB := Lib.hid (ownBlock_any key nonce 0 w hk hn (by omega))
  obtain ⟨bk, hbk⟩ : ∃ b : ByteArray, b = ⟨(chaB key.data.toList nonce.data.toList 0).toArray⟩ := ⟨_, rfl⟩
  have hbs : bk.size = 64 := by rw [hbk]; exact chaB_length _ _ _
  have h32 : (32 : Int) ≤ (bk.size : Int) := by omega
  have hx1 : (bk.extract 0 32).data.toList = (chaB key.data.toList nonce.data.toList 0).take 32 := by rw [Lib.extract_data, hbk]; rfl
  have hx2 : (bk.extract 0 32).size = 32 := by rw [ByteArray.size_extract]; omega
  obtain ⟨tg, htg⟩ : ∃ b : ByteArray, b = ⟨(tagT beside.data.toList hidden.data.toList).toArray⟩ := ⟨_, rfl⟩
  have htl : tg.size ≤ 1099511627776 := by rw [htg]; show (tagT _ _).length ≤ _; rw [tagT_length, ← Lib.size_eq, ← Lib.size_eq]; omega
  have HT := Lib.hid (fun W => stagged_any beside hidden W h1 h2)
  have HP := Lib.hid (fun W => ownTag_any (bk.extract 0 32) tg W hx2 htl)
  rw [hx1, show tg.data.toList = tagT beside.data.toList hidden.data.toList by rw [htg]] at HP
  rw [← hbk] at HB
  rw [← htg] at HT
  have HP2 : Hid (∀ W, Calls Tryz.prog 96 #[.string (bk.extract 0 32), .string tg] W fun e w' => e = .returned (.tuple #[.string ⟨(tagS key.data.toList nonce.data.toList beside.data.toList hidden.data.toList).toArray⟩, .int .i64 0]) ∧ Below W.heap.size W w') := HP
  clear HP hbk hx1 hx2 htg htl hbs
  generalize (⟨(tagS key.data.toList nonce.data.toList beside.data.toList hidden.data.toList).toArray⟩ : ByteArray) = r at *
  go_enter Tryz.func64, Tryz.ntmps64
  go_wp2_with fail
  refine HB.out.mono ?_
  rintro e W1 ⟨rfl, hb1⟩
  go_wp2_with fail
  refine wp_region_reads (by kernel_rfl) (by kernel_rfl) ?_
  repeat (first | go_big_quiet_step ((first | with_reducible exact Calls.regrown_of (HT.out _) | with_reducible exact Calls.regrown_of (HP2.out _))) | quiet_step ((first | with_reducible exact Calls.regrown_of (HT.out _) | with_reducible exact Calls.regrown_of (HP2.out _))))
  refine wpQuiet_nil ?_
  intro W4 hb4
  clear HT HP2 HB
  have hb5 := hb1.trans (hb4.mono hb1.size)
  clear hb1 hb4
  go_wp2_with fail
  go_ret
  exact ⟨rfl, hb5⟩

set_option maxHeartbeats 1000000 in
theorem csealKey_any (key nonce beside plain : ByteArray) (w : World) (hk : key.size ≠ 32 ∨ nonce.size ≠ 12) :
    Calls Tryz.prog 42 #[.string key, .string nonce, .string beside, .string plain] w fun e w' => e = .returned (.tuple #[.string ⟨#[]⟩, .int .i64 21]) ∧ w = w' := by
  by_cases h1 : key.size = 32
  · have d1 : ((key.size : Int) != 32) = false := by simp; omega
    have d2 : ((nonce.size : Int) != 12) = true := by simp; omega
    go_enter Tryz.func42, Tryz.ntmps42
    go_wp2_with fail
    go_ret2
    exact ⟨rfl, rfl⟩
  · have d1 : ((key.size : Int) != 32) = true := by simp; omega
    go_enter Tryz.func42, Tryz.ntmps42
    go_wp2_with fail
    go_ret2
    exact ⟨rfl, rfl⟩

theorem append_bytes3 (a : ByteArray) (l : List UInt8) : a ++ ⟨l.toArray⟩ = (⟨(a.data.toList ++ l).toArray⟩ : ByteArray) := by
  apply ByteArray.ext
  rw [ByteArray.data_append]
  simp

set_option maxHeartbeats 1000000 in
theorem cseal_any (key nonce beside plain : ByteArray) (w : World) (hk : key.size = 32) (hn : nonce.size = 12) (h1 : beside.size ≤ 1048576) (h2 : plain.size ≤ 1048576) :
    Calls Tryz.prog 42 #[.string key, .string nonce, .string beside, .string plain] w fun e w' => e = .returned (.tuple #[.string ⟨(sealS key.data.toList nonce.data.toList beside.data.toList plain.data.toList).toArray⟩, .int .i64 0]) ∧ Below w.heap.size w w' := by
  have d1 : ((key.size : Int) != 32) = false := by simp; omega
  have d2 : ((nonce.size : Int) != 12) = false := by simp; omega
  have d3 : decide ((1048576 : Int) < (beside.size : Int)) = false := by simp; omega
  have d4 : decide ((1048576 : Int) < (plain.size : Int)) = false := by simp; omega
  have HX := Lib.hid (sxored_any key nonce plain w hk hn (by omega))
  have hsl := hidS_length key.data.toList nonce.data.toList plain.data.toList
  rw [← Lib.size_eq] at hsl
  obtain ⟨hid, hhid⟩ : ∃ s : ByteArray, s = ⟨(hidS key.data.toList nonce.data.toList plain.data.toList).toArray⟩ := ⟨_, rfl⟩
  have hhs : hid.size = plain.size := by rw [hhid]; exact hsl
  have HTg := Lib.hid (fun W => stag_any key nonce beside hid W hk hn (by omega) (by omega))
  have HS : Hid (hid ++ ⟨(tagS key.data.toList nonce.data.toList beside.data.toList hid.data.toList).toArray⟩ = (⟨(sealS key.data.toList nonce.data.toList beside.data.toList plain.data.toList).toArray⟩ : ByteArray)) := Lib.hid (by rw [append_bytes3, hhid]; rfl)
  have htl : (⟨(tagS key.data.toList nonce.data.toList beside.data.toList hid.data.toList).toArray⟩ : ByteArray).size = 16 := tagS_length _ _ _ _
  rw [← hhid] at HX
  clear hhid hsl
  generalize (⟨(tagS key.data.toList nonce.data.toList beside.data.toList hid.data.toList).toArray⟩ : ByteArray) = tg at *
  have hsz : (hid.size : Int) + (tg.size : Int) ≤ 9223372036854775807 := by omega
  go_enter Tryz.func42, Tryz.ntmps42
  go_wp2_with fail
  refine HX.out.mono ?_
  rintro e W1 ⟨rfl, hb1⟩
  go_wp2_with fail
  refine (HTg.out W1).mono ?_
  rintro e W2 ⟨rfl, hb2⟩
  go_wp2_with fail
  go_ret2
  exact ⟨by rw [← HS.out]; rfl, hb1.trans (hb2.mono hb1.size)⟩

set_option maxHeartbeats 1000000 in
theorem copenKey_any (key nonce beside sealed : ByteArray) (w : World) (hk : key.size ≠ 32 ∨ nonce.size ≠ 12) :
    Calls Tryz.prog 45 #[.string key, .string nonce, .string beside, .string sealed] w fun e w' => e = .returned (.tuple #[.string ⟨#[]⟩, .int .i64 21]) ∧ w = w' := by
  by_cases h1 : key.size = 32
  · have d1 : ((key.size : Int) != 32) = false := by simp; omega
    have d2 : ((nonce.size : Int) != 12) = true := by simp; omega
    go_enter Tryz.func45, Tryz.ntmps45
    go_wp2_with fail
    go_ret2
    exact ⟨rfl, rfl⟩
  · have d1 : ((key.size : Int) != 32) = true := by simp; omega
    go_enter Tryz.func45, Tryz.ntmps45
    go_wp2_with fail
    go_ret2
    exact ⟨rfl, rfl⟩
set_option maxHeartbeats 1000000 in
theorem copenShort_any (key nonce beside sealed : ByteArray) (w : World) (hk : key.size = 32) (hn : nonce.size = 12) (hs : sealed.size < 16) :
    Calls Tryz.prog 45 #[.string key, .string nonce, .string beside, .string sealed] w fun e w' => e = .returned (.tuple #[.string ⟨#[]⟩, .int .i64 20]) ∧ w = w' := by
  have d1 : ((key.size : Int) != 32) = false := by simp; omega
  have d2 : ((nonce.size : Int) != 12) = false := by simp; omega
  have d3 : decide ((sealed.size : Int) < 16) = true := by simp; omega
  go_enter Tryz.func45, Tryz.ntmps45
  go_wp2_with fail
  go_ret2
  exact ⟨rfl, rfl⟩

set_option maxHeartbeats 1000000 in
theorem copen_any (key nonce beside sealed : ByteArray) (w : World) (hk : key.size = 32) (hn : nonce.size = 12) (h1 : beside.size ≤ 1048576) (h2 : sealed.size ≤ 1048592) (hs : 16 ≤ sealed.size) :
    Calls Tryz.prog 45 #[.string key, .string nonce, .string beside, .string sealed] w fun e w' => e = .returned (if tagOkS key.data.toList nonce.data.toList beside.data.toList sealed.data.toList then .tuple #[.string ⟨(openS key.data.toList nonce.data.toList beside.data.toList sealed.data.toList).toArray⟩, .int .i64 0] else .tuple #[.string ⟨#[]⟩, .int .i64 20]) ∧ Below w.heap.size w w' := by
  have d1 : ((key.size : Int) != 32) = false := by simp; omega
  have d2 : ((nonce.size : Int) != 12) = false := by simp; omega
  have d3 : decide ((sealed.size : Int) < 16) = false := by simp; omega
  have d4 : decide ((1048576 : Int) < (beside.size : Int)) = false := by simp; omega
  have d5 : decide ((1048592 : Int) < (sealed.size : Int)) = false := by simp; omega
  obtain ⟨n, hnn⟩ : ∃ n, n = sealed.size - 16 := ⟨_, rfl⟩
  have e1 : IntKind.i64.wrap ((sealed.size : Int) - 16) = (sealed.size : Int) - 16 := IntWalk.i64_in _ (by omega)
  have e2 : (sealed.size : Int) - 16 = (n : Int) := by omega
  have e3 : (n : Int) ≤ (sealed.size : Int) := by omega
  have ht1 : (sealed.extract 0 n).data.toList = sealed.data.toList.take (sealed.data.toList.length - 16) := by rw [Lib.extract_data, List.drop_zero, ← Lib.size_eq, hnn]; rfl
  have ht2 : (sealed.extract n sealed.size).data.toList = sealed.data.toList.drop (sealed.data.toList.length - 16) := by rw [Lib.extract_data, List.take_of_length_le (by rw [List.length_drop, ← Lib.size_eq]; exact Nat.le_refl _), ← Lib.size_eq, hnn]
  have hs1 : (sealed.extract 0 n).size = n := by rw [ByteArray.size_extract]; omega
  have hs2 : (sealed.extract n sealed.size).size = 16 := by rw [ByteArray.size_extract]; omega
  have HTg := Lib.hid (fun W => stag_any key nonce beside (sealed.extract 0 n) W hk hn (by omega) (by omega))
  have HX := Lib.hid (fun W => sxored_any key nonce (sealed.extract 0 n) W hk hn (by omega))
  have htl : (⟨(tagS key.data.toList nonce.data.toList beside.data.toList (sealed.extract 0 n).data.toList).toArray⟩ : ByteArray).size = 16 := tagS_length _ _ _ _
  have HSm := Lib.hid (fun W => gsame_any ⟨(tagS key.data.toList nonce.data.toList beside.data.toList (sealed.extract 0 n).data.toList).toArray⟩ (sealed.extract n sealed.size) W (by rw [htl]; unfold maxLen; omega) (by rw [hs2]; unfold maxLen; omega))
  have HOk : Hid (((⟨(tagS key.data.toList nonce.data.toList beside.data.toList (sealed.extract 0 n).data.toList).toArray⟩ : ByteArray).data.toList == (sealed.extract n sealed.size).data.toList) = tagOkS key.data.toList nonce.data.toList beside.data.toList sealed.data.toList) := Lib.hid (by rw [ht1, ht2]; rfl)
  have HOp : Hid ((⟨(hidS key.data.toList nonce.data.toList (sealed.extract 0 n).data.toList).toArray⟩ : ByteArray) = ⟨(openS key.data.toList nonce.data.toList beside.data.toList sealed.data.toList).toArray⟩) := Lib.hid (by rw [ht1]; rfl)
  rw [HOk.out] at HSm
  rw [HOp.out] at HX
  clear HOk HOp ht1 ht2 hs1 hs2 htl hnn
  generalize (⟨(tagS key.data.toList nonce.data.toList beside.data.toList (sealed.extract 0 n).data.toList).toArray⟩ : ByteArray) = tg at *
  generalize hok : tagOkS key.data.toList nonce.data.toList beside.data.toList sealed.data.toList = ok at *
  generalize (⟨(openS key.data.toList nonce.data.toList beside.data.toList sealed.data.toList).toArray⟩ : ByteArray) = op at *
  go_enter Tryz.func45, Tryz.ntmps45
  go_wp2_with fail
  refine wp_region_reads (by kernel_rfl) (by kernel_rfl) ?_
  repeat (first | go_big_quiet_step ((first | with_reducible exact Calls.regrown_of (HTg.out _) | with_reducible exact Calls.regrown_of (HSm.out _))) | quiet_step ((first | with_reducible exact Calls.regrown_of (HTg.out _) | with_reducible exact Calls.regrown_of (HSm.out _))))
  refine wpQuiet_nil ?_
  intro W4 hb4
  clear HTg HSm
  cases ok with
  | false =>
    go_wp2_with fail
    go_ret2
    exact ⟨rfl, hb4⟩
  | true =>
    go_wp2_with fail
    refine (HX.out W4).mono ?_
    rintro e W5 ⟨rfl, hb5⟩
    go_wp2_with fail
    go_ret2
    exact ⟨rfl, hb4.trans (hb5.mono hb4.size)⟩
end

section
open Go.RowKit Go.Sort
set_option maxRecDepth 100000
set_option linter.unusedSimpArgs false
set_option linter.unusedVariables false

def noB : ByteArray := ⟨#[]⟩
/-- What Seal answers: a text and an error's number. -/
def sealO (suite : Int) (key nonce beside plain : ByteArray) : ByteArray × Int :=
  if suite = 4865 then
    if key.size = 16 ∧ nonce.size = 12 then (⟨(sealG key.data.toList nonce.data.toList beside.data.toList plain.data.toList).toArray⟩, 0) else (noB, 21)
  else if suite = 4867 then
    if key.size = 32 ∧ nonce.size = 12 then (⟨(sealS key.data.toList nonce.data.toList beside.data.toList plain.data.toList).toArray⟩, 0) else (noB, 21)
  else (noB, 1)
/-- What Open answers. -/
def openO (suite : Int) (key nonce beside sealed : ByteArray) : ByteArray × Int :=
  if suite = 4865 then
    if key.size = 16 ∧ nonce.size = 12 then
      if sealed.size < 16 then (noB, 20)
      else if tagOk key.data.toList nonce.data.toList beside.data.toList sealed.data.toList then (⟨(openG key.data.toList nonce.data.toList beside.data.toList sealed.data.toList).toArray⟩, 0) else (noB, 20)
    else (noB, 21)
  else if suite = 4867 then
    if key.size = 32 ∧ nonce.size = 12 then
      if sealed.size < 16 then (noB, 20)
      else if tagOkS key.data.toList nonce.data.toList beside.data.toList sealed.data.toList then (⟨(openS key.data.toList nonce.data.toList beside.data.toList sealed.data.toList).toArray⟩, 0) else (noB, 20)
    else (noB, 21)
  else (noB, 1)
/-- An answer of a text and an error. -/
def ansO (x : ByteArray × Int) : Ending := .returned (.tuple #[.string x.1, .int .i64 x.2])

theorem below_eq {P : Program} {f : Nat} {args : Array Value} {w : World} {e0 : Ending} (h : Calls P f args w fun e w' => e = e0 ∧ w = w') : Calls P f args w fun e w' => e = e0 ∧ Below w.heap.size w w' :=
  h.mono fun e w' ⟨h1, h2⟩ => ⟨h1, by subst h2; exact Below.refl _ _⟩
theorem ite_ans (c : Bool) (a : ByteArray) (e : ByteArray × Int) (he : e = if c then (a, 0) else (noB, 20)) : (Ending.returned (if c then .tuple #[.string a, .int .i64 0] else .tuple #[.string ⟨#[]⟩, .int .i64 20])) = ansO e := by subst he; cases c <;> rfl

theorem gsealO_any (key nonce beside plain : ByteArray) (w : World) (h1 : beside.size ≤ 20000) (h2 : plain.size ≤ 20000) (hT : TabQ w) :
    Calls Tryz.prog 41 #[.string key, .string nonce, .string beside, .string plain] w fun e w' => e = ansO (sealO 4865 key nonce beside plain) ∧ Below w.heap.size w w' := by
  by_cases h : key.size = 16 ∧ nonce.size = 12
  · rw [sealO, if_pos rfl, if_pos h]; exact gseal_any key nonce beside plain w h.1 h.2 h1 h2 hT
  · rw [sealO, if_pos rfl, if_neg h]; exact below_eq (gsealKey_any key nonce beside plain w (by omega))
theorem csealO_any (key nonce beside plain : ByteArray) (w : World) (h1 : beside.size ≤ 1048576) (h2 : plain.size ≤ 1048576) :
    Calls Tryz.prog 42 #[.string key, .string nonce, .string beside, .string plain] w fun e w' => e = ansO (sealO 4867 key nonce beside plain) ∧ Below w.heap.size w w' := by
  by_cases h : key.size = 32 ∧ nonce.size = 12
  · rw [sealO, if_neg (by decide), if_pos rfl, if_pos h]; exact cseal_any key nonce beside plain w h.1 h.2 h1 h2
  · rw [sealO, if_neg (by decide), if_pos rfl, if_neg h]; exact below_eq (csealKey_any key nonce beside plain w (by omega))
theorem gopenO_any (key nonce beside sealed : ByteArray) (w : World) (h1 : beside.size ≤ 20000) (h2 : sealed.size ≤ 20000) (hT : TabQ w) :
    Calls Tryz.prog 44 #[.string key, .string nonce, .string beside, .string sealed] w fun e w' => e = ansO (openO 4865 key nonce beside sealed) ∧ Below w.heap.size w w' := by
  by_cases h : key.size = 16 ∧ nonce.size = 12
  · by_cases hs : sealed.size < 16
    · rw [openO, if_pos rfl, if_pos h, if_pos hs]; exact below_eq (gopenShort_any key nonce beside sealed w h.1 h.2 hs)
    · rw [openO, if_pos rfl, if_pos h, if_neg hs, ← ite_ans _ _ _ rfl]; exact gopen_any key nonce beside sealed w h.1 h.2 h1 h2 (by omega) hT
  · rw [openO, if_pos rfl, if_neg h]; exact below_eq (gopenKey_any key nonce beside sealed w (by omega))
theorem copenO_any (key nonce beside sealed : ByteArray) (w : World) (h1 : beside.size ≤ 1048576) (h2 : sealed.size ≤ 1048592) :
    Calls Tryz.prog 45 #[.string key, .string nonce, .string beside, .string sealed] w fun e w' => e = ansO (openO 4867 key nonce beside sealed) ∧ Below w.heap.size w w' := by
  by_cases h : key.size = 32 ∧ nonce.size = 12
  · by_cases hs : sealed.size < 16
    · rw [openO, if_neg (by decide), if_pos rfl, if_pos h, if_pos hs]; exact below_eq (copenShort_any key nonce beside sealed w h.1 h.2 hs)
    · rw [openO, if_neg (by decide), if_pos rfl, if_pos h, if_neg hs, ← ite_ans _ _ _ rfl]; exact copen_any key nonce beside sealed w h.1 h.2 h1 h2 (by omega)
  · rw [openO, if_neg (by decide), if_pos rfl, if_neg h]; exact below_eq (copenKey_any key nonce beside sealed w (by omega))

set_option maxHeartbeats 1000000 in
theorem sealO_any (suite : Int) (key nonce beside plain : ByteArray) (w : World) (h1 : beside.size ≤ 20000) (h2 : plain.size ≤ 20000) (hT : TabQ w) :
    Calls Tryz.prog 27 #[.int .i64 suite, .string key, .string nonce, .string beside, .string plain] w fun e w' => e = ansO (sealO suite key nonce beside plain) ∧ Below w.heap.size w w' := by
  by_cases hs1 : suite = 4865
  · subst hs1
    have HG := Lib.hid (gsealO_any key nonce beside plain w h1 h2 hT)
    unfold ansO at HG ⊢
    generalize sealO 4865 key nonce beside plain = x at *
    obtain ⟨x1, x2⟩ := x
    go_enter Tryz.func27, Tryz.ntmps27
    go_wp2_with fail
    refine HG.out.mono ?_
    rintro e W1 ⟨rfl, hb1⟩
    go_wp2_with fail
    go_ret2
    exact ⟨rfl, hb1⟩
  · have d1 : (suite == 4865) = false := by simpa using hs1
    by_cases hs2 : suite = 4867
    · subst hs2
      have HG := Lib.hid (csealO_any key nonce beside plain w (by omega) (by omega))
      unfold ansO at HG ⊢
      generalize sealO 4867 key nonce beside plain = x at *
      obtain ⟨x1, x2⟩ := x
      go_enter Tryz.func27, Tryz.ntmps27
      go_wp2_with fail
      refine HG.out.mono ?_
      rintro e W1 ⟨rfl, hb1⟩
      go_wp2_with fail
      go_ret2
      exact ⟨rfl, hb1⟩
    · have d2 : (suite == 4867) = false := by simpa using hs2
      rw [sealO, if_neg hs1, if_neg hs2]
      clear hs1 hs2
      go_enter Tryz.func27, Tryz.ntmps27
      go_wp2_with fail
      go_ret2
      exact ⟨rfl, Below.refl _ _⟩

set_option maxHeartbeats 1000000 in
theorem openO_any (suite : Int) (key nonce beside sealed : ByteArray) (w : World) (h1 : beside.size ≤ 20000) (h2 : sealed.size ≤ 20000) (hT : TabQ w) :
    Calls Tryz.prog 32 #[.int .i64 suite, .string key, .string nonce, .string beside, .string sealed] w fun e w' => e = ansO (openO suite key nonce beside sealed) ∧ Below w.heap.size w w' := by
  by_cases hs1 : suite = 4865
  · subst hs1
    have HG := Lib.hid (gopenO_any key nonce beside sealed w h1 h2 hT)
    unfold ansO at HG ⊢
    generalize openO 4865 key nonce beside sealed = x at *
    obtain ⟨x1, x2⟩ := x
    go_enter Tryz.func32, Tryz.ntmps32
    go_wp2_with fail
    refine HG.out.mono ?_
    rintro e W1 ⟨rfl, hb1⟩
    go_wp2_with fail
    go_ret2
    exact ⟨rfl, hb1⟩
  · have d1 : (suite == 4865) = false := by simpa using hs1
    by_cases hs2 : suite = 4867
    · subst hs2
      have HG := Lib.hid (copenO_any key nonce beside sealed w (by omega) (by omega))
      unfold ansO at HG ⊢
      generalize openO 4867 key nonce beside sealed = x at *
      obtain ⟨x1, x2⟩ := x
      go_enter Tryz.func32, Tryz.ntmps32
      go_wp2_with fail
      refine HG.out.mono ?_
      rintro e W1 ⟨rfl, hb1⟩
      go_wp2_with fail
      go_ret2
      exact ⟨rfl, hb1⟩
    · have d2 : (suite == 4867) = false := by simpa using hs2
      rw [openO, if_neg hs1, if_neg hs2]
      clear hs1 hs2
      go_enter Tryz.func32, Tryz.ntmps32
      go_wp2_with fail
      go_ret2
      exact ⟨rfl, Below.refl _ _⟩
/-- A short text is opened by none (whatever the sizes): the chapter's example. -/
theorem copenEmpty (key nonce : ByteArray) (hk : key.size = 32) (hn : nonce.size = 12) : openO 4867 key nonce noB noB = (noB, 20) := by
  rw [openO, if_neg (by decide), if_pos rfl, if_pos ⟨hk, hn⟩, if_pos (by decide)]
end
end Go.Proofs.YtffnafikegakcaaGreatDoor
