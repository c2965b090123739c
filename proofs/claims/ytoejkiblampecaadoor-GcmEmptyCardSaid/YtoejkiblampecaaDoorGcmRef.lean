/- The reference's small functions: bit, counter, filled, long. -/
import Derived.Test.YtoejkiblampecaaDoorGcmWord
import Derived.Test.YtoejkiblampecaaDoorAesRtop
namespace Go.Proofs.YtoejkiblampecaaDoor
open Go.RowKit Go.Sort
set_option maxRecDepth 100000
set_option linter.unusedSimpArgs false
set_option linter.unusedVariables false

def bitI (b : Bool) : Int := if b then 1 else 0
theorem gx_bit (x k : Nat) (hx : x < 256) : bits .and .u8 ((x : Int) / 2 ^ k) 1 = bitI (x.testBit k) := by
  have h := u8_and_nat (x / 2 ^ k) 1 (by have := Nat.div_le_self x (2 ^ k); omega) (by decide)
  have e : ((x / 2 ^ k : Nat) : Int) = (x : Int) / 2 ^ k := by simp
  rw [e] at h
  rw [show (1 : Int) = ((1 : Nat) : Int) from rfl, h, Nat.and_one_is_mod, Nat.testBit_eq_decide_div_mod_eq]
  have h2 : x / 2 ^ k % 2 = 0 ∨ x / 2 ^ k % 2 = 1 := by omega
  rcases h2 with h2 | h2 <;> simp [h2, bitI]

set_option maxHeartbeats 1000000 in
theorem bit_any (g cap : Nat) (l : List UInt8) (n : Nat) (w : World) (hn : n < 128) (hg : BytesAt w g 16 l) :
    Calls Tryd.prog 49 #[.slice (some ⟨g, 0, none⟩) 16 cap, .int .i64 (n : Int)] w fun e w' => e = .returned (.int .u8 (bitI (gbit l n))) ∧ w = w' := by
  have c1 := hg (n / 8) (by omega)
  have e1 : (n : Int) / 8 = ((n / 8 : Nat) : Int) := by omega
  have t1 : (n : Int).tdiv 8 = ((n / 8 : Nat) : Int) := by rw [Int.tdiv_eq_ediv_of_nonneg (by omega)]; omega
  have t2 : (n : Int).tmod 8 = ((n % 8 : Nat) : Int) := by rw [Int.tmod_eq_emod_of_nonneg (by omega)]; omega
  have b1 : ((n / 8 : Nat) : Int) < 16 := by omega
  have b2 : (0 : Int) ≤ 7 - ((n % 8 : Nat) : Int) := by omega
  have b3 : (7 - ((n % 8 : Nat) : Int)).toNat = 7 - n % 8 := by omega
  have HX := Lib.hid (gx_bit (l.getD (n / 8) 0).toNat (7 - n % 8) (UInt8.toNat_lt _))
  have HG : Hid ((l.getD (n / 8) 0).toNat.testBit (7 - n % 8) = gbit l n) := Lib.hid rfl
  rw [HG.out] at HX
  clear hg HG
  generalize l.getD (n / 8) 0 = x at *
  generalize n / 8 = q at *
  generalize n % 8 = r at *
  go_enter Tryd.func49, Tryd.ntmps49
  go_wp2_with fail
  go_ret
  exact ⟨by rw [← HX.out]; rfl, rfl⟩

theorem be4_cells (n : Nat) (hn : n < 1073741824) : (#[.int .u8 ((n : Int) / 16777216), .int .u8 ((n : Int) / 65536 % 256), .int .u8 ((n : Int) / 256 % 256), .int .u8 ((n : Int) % 256)] : Array Value) = bcells (be 4 n) := by
  simp [bcells, Lib.byteCells, be]
  omega
theorem append_bytes (a : ByteArray) (l : List UInt8) : a ++ ⟨l.toArray⟩ = (⟨(a.data.toList ++ l).toArray⟩ : ByteArray) := by
  apply ByteArray.ext
  rw [ByteArray.data_append]
  simp

set_option maxHeartbeats 1000000 in
theorem counter_any (nonce : ByteArray) (n : Nat) (w : World) (hn : n < 1073741824) (hs : nonce.size = 12) :
    Calls Tryd.prog 40 #[.string nonce, .int .i64 (n : Int)] w fun e w' => e = .returned (.string ⟨(ctG nonce.data.toList n).toArray⟩) ∧ Below w.heap.size w w' := by
  have hcv := run_string_row (w.alloc (.cells (bcells (be 4 n)) 5)) w.heap.size 4 (be 4 n) (cells_of_bcells (blk_new w (.cells (bcells (be 4 n)) 5)))
  have hb := below_new w (.cells (bcells (be 4 n)) 5)
  rw [← be4_cells n hn, be_length] at hcv
  rw [← be4_cells n hn] at hb
  have h4 : (⟨(be 4 n).toArray⟩ : ByteArray).size = 4 := be_length _ _
  have HA := Lib.hid (append_bytes nonce (be 4 n))
  have HC : Hid (nonce.data.toList ++ be 4 n = ctG nonce.data.toList n) := Lib.hid rfl
  rw [HC.out] at HA
  clear HC
  generalize be 4 n = l4 at *
  have hsz : (nonce.size : Int) + ((⟨l4.toArray⟩ : ByteArray).size : Int) ≤ 9223372036854775807 := by omega
  go_enter Tryd.func40, Tryd.ntmps40
  go_wp2_with fail
  go_ret
  exact ⟨by rw [← HA.out]; rfl, hb⟩
set_option maxHeartbeats 1000000 in
theorem filled_any (s : ByteArray) (w : World) (hs : s.size ≤ 1099511627776) :
    Calls Tryd.prog 41 #[.string s] w fun e w' => e = .returned (.string ⟨(padG s.data.toList).toArray⟩) ∧ w = w' := by
  go_enter Tryd.func41, Tryd.ntmps41
  go_wp2_with fail
  go_loopw [0] (fun v wr => ∃ c : ByteArray, v = .string c ∧ c.size ≤ 1099511627776 + 16 ∧ (c.size ≤ (s.size + 15) / 16 * 16) ∧ Hid (padG c.data.toList = padG s.data.toList) ∧ w = wr) (fun v _ => (match v with | .string c => (s.size + 15) / 16 * 16 - c.size | _ => 0))
  case atStart => exact ⟨s, rfl, by omega, by omega, Lib.hid rfl, rfl⟩
  case round =>
    obtain ⟨c, rfl, hc1, hc2, HC, rfl⟩ := hrel
    by_cases h : c.size % 16 = 0
    · have hd2 : (((c.size : Int) % 16) != 0) = false := by simp; omega
      go_wp2_with fail
      go_ret
      exact ⟨by rw [← HC.out, padG_full _ (by rw [← Lib.size_eq]; exact h)]; rfl, by first | rfl | trivial⟩
    · have hd2 : (((c.size : Int) % 16) != 0) = true := by simp; omega
      have hz : (c ++ (⟨#[0]⟩ : ByteArray)).size = c.size + 1 := by rw [ByteArray.size_append]; rfl
      have HZ : Hid (padG (c ++ (⟨#[0]⟩ : ByteArray)).data.toList = padG s.data.toList) := Lib.hid (by
        rw [← HC.out, ByteArray.data_append, Array.toList_append]
        exact padG_snoc _ (by rw [← Lib.size_eq]; exact h))
      go_wp2_with fail
      go_roundw
      case rel => exact ⟨_, rfl, by omega, by omega, HZ, by first | rfl | trivial⟩
      case measure => show _ - (c ++ (⟨#[0]⟩ : ByteArray)).size < _ - c.size; omega

theorem long_byte (n k : Nat) (hn : n < 1099511627776) (hk : k < 8) : ((8 * n / 2 ^ (8 * (7 - k)) % 256 : Nat) : Int) = (((longG n).getD k 0).toNat : Int) := by
  rw [longG, be_getD _ _ _ hk, ← wbyte_be, wbyte_toNat, show 8 - 1 - k = 7 - k by omega]
  simp

set_option maxHeartbeats 1000000 in
theorem long_any (n : Nat) (w : World) (hn : n < 1099511627776) :
    Calls Tryd.prog 42 #[.int .i64 (n : Int)] w fun e w' => e = .returned (.string ⟨(longG n).toArray⟩) ∧ Below w.heap.size w w' := by
  obtain ⟨i0, hi, hz0, hz1, hz2⟩ := info_parts info_u8
  go_enter Tryd.func42, Tryd.ntmps42
  go_wp2_with fail
  generalize hBB : w.heap.size = B at *
  have HBB := Lib.hid hBB
  have hszB : B ≤ w.heap.size := by omega
  clear hBB
  go_loopw [3, 4] (fun v i wr => ∃ (k : Nat) (ao : Option Addr) (cp : Nat), k ≤ 8 ∧ i = .int .i64 (7 - (k : Int)) ∧ v = .slice ao k cp ∧ Own wr B (.slice ao k cp) (Lib.byteCells (genL (fun i => (longG n).getD i 0) k)) ∧ Below B w wr ∧ B ≤ wr.heap.size) (fun _ i _ => (intOf i + 1).toNat)
  case atStart => exact ⟨0, none, 0, by omega, rfl, rfl, Own.nil _ _, Below.refl _ _, hszB⟩
  case round =>
    obtain ⟨k, ao, cp, hk, rfl, rfl, hown, hb, hsz⟩ := hrel
    have HO := Lib.hid hown
    have HL := Lib.hid (bcs_length _ _ (genL_length (fun i => (longG n).getD i 0) k))
    clear hown
    by_cases hlt : k < 8
    · have hd : decide ((k : Int) ≤ 7) = true := by simp; omega
      have HN := Lib.hid (show Lib.byteCells (genL (fun i => (longG n).getD i 0) k) ++ [.int .u8 (((longG n).getD k 0).toNat : Int)] = Lib.byteCells (genL (fun i => (longG n).getD i 0) (k + 1)) from by rw [bcs_snoc, genL_succ])
      have HV := Lib.hid (long_byte n k hn hlt)
      have e1 : (8 * (7 - (k : Int))).toNat = 8 * (7 - k) := by omega
      have e2 : (0 : Int) ≤ 8 * (7 - (k : Int)) := by omega
      have E3 := Lib.hid (show (8 : Int) * (n : Int) / 2 ^ (8 * (7 - k)) % 256 = ((8 * n / 2 ^ (8 * (7 - k)) % 256 : Nat) : Int) by simp)
      have b0 := HO.out.alloc (.cells #[.int .u8 (8 * (n : Int) / 2 ^ (8 * (7 - k)) % 256)] 5)
      have HOA := Lib.hid b0
      clear b0
      generalize Lib.byteCells (genL (fun i => (longG n).getD i 0) k) = cu at *
      go_wp2_with (at_builtin; refine wpList_append_sl rfl (.tmp 9) (.tmp 16) 31 rfl B 5 i0 (.int .u8 0) 1 Tryd.underlying31 hi hz0 hz1 hz2 rfl ao k cp _ rfl HOA.out HL.out ⟨wr.heap.size, 0, none⟩ 1 1 [.int .u8 _] rfl rfl (cell_one_new _ _ _) ?b2 ?b3 ?b4 ?b5 ?_)
      case b2 => intro u hu; simp at hu; subst hu; rfl
      case b3 => omega
      case b4 => omega
      case b5 => simp; omega
      intro ao5 cp5 W5 hown5 hgrow5
      have hb5 : Below B w W5 := below_append (hb.alloc hsz _) (by simp; omega) HOA.out hgrow5
      have hsz5 : B ≤ W5.heap.size := by have := hgrow5.size; simp at this; omega
      rw [E3.out, HV.out, HN.out] at hown5
      clear hgrow5 HO HOA hb hsz
      go_wp2_with fail
      go_roundw
      case rel => exact ⟨k + 1, ao5, cp5, by omega, by congr 1; omega, rfl, hown5, hb5, hsz5⟩
      case measure => simp [intOf]; omega
    · have hd : decide ((k : Int) ≤ 7) = false := by simp; omega
      obtain rfl : k = 8 := by omega
      obtain ⟨G, rfl, hG⟩ := own_bytes HO.out (genL_length _ _) (by omega)
      rw [show genL (fun i => (longG n).getD i 0) 8 = longG n from bytes_ext (genL_length _ _) (longG_length n) fun i hi => by rw [genL, range_getD _ _ _ hi]] at hG
      have hl := longG_length n
      have hcv := run_string_at wr G 0 cp 8 (longG n) hl (fun j x hx => by
        have hj : j < 8 := by have := (List.getElem?_eq_some_iff.1 hx).1; omega
        rw [Nat.zero_add, hG j hj, List.getD_eq_getElem?_getD, hx]; rfl)
      clear hG hl HO HL
      go_wp2_with fail
      go_ret
      exact ⟨rfl, by rw [HBB.out]; exact hb⟩
end Go.Proofs.YtoejkiblampecaaDoor
