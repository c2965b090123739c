/- The reference's small functions: bit, counter, filled, long; The reference's product of blocks; The reference's hash and Hash; The reference's stream; The reference's tag; The reference's Seal and Open. -/
import Derived.Test.YtffnafikegakcaaGreatDoorGcmA
import Derived.Test.YtffnafikegakcaaGreatDoorAesR
import Derived.Test.YtffnafikegakcaaGreatDoorGcmP
namespace Go.Proofs.YtffnafikegakcaaGreatDoor
section
open Go.RowKit Go.Sort
set_option maxRecDepth 100000
set_option linter.unusedSimpArgs false
set_option linter.unusedVariables false

def bitI (b : Bool) : Int := if b then 1 else 0
theorem gx_bit (x k : Nat) (hx : x < 256) : bits .and .u8 ((x : Int) / 2 ^ k) 1 = bitI (x.testBit k) := by
  have h := u8_and_nat (x / 2 ^ k) 1 (by have := Nat.div_le_self x (2 ^ k); omega) (by decide)
  have e : ((x / 2 ^ k : Nat) : Int) = (x : Int) / 2 ^ k := by simp
  rw [e] at h
  rw [show (1 : Int) = ((1 : Nat) : Int) from rfl, h, Nat.and_one_is_mod, Nat.testBit_eq_decide_div_mod_eq]
  have h2 : x / 2 ^ k % 2 = 0 ∨ x / 2 ^ k % 2 = 1 := by omega
  rcases h2 with h2 | h2 <;> simp [h2, bitI]

set_option maxHeartbeats 1000000 in
theorem bit_any (g cap : Nat) (l : List UInt8) (n : Nat) (w : World) (hn : n < 128) (hg : BytesAt w g 16 l) :
    Calls Tryz.prog 130 #[.slice (some ⟨g, 0, none⟩) 16 cap, .int .i64 (n : Int)] w fun e w' => e = .returned (.int .u8 (bitI (gbit l n))) ∧ w = w' := by
  have c1 := hg (n / 8) (by omega)
  have e1 : (n : Int) / 8 = ((n / 8 : Nat) : Int) := by omega
  have t1 : (n : Int).tdiv 8 = ((n / 8 : Nat) : Int) := by rw [Int.tdiv_eq_ediv_of_nonneg (by omega)]; omega
  have t2 : (n : Int).tmod 8 = ((n % 8 : Nat) : Int) := by rw [Int.tmod_eq_emod_of_nonneg (by omega)]; omega
  have b1 : ((n / 8 : Nat) : Int) < 16 := by omega
  have b2 : (0 : Int) ≤ 7 - ((n % 8 : Nat) : Int) := by omega
  have b3 : (7 - ((n % 8 : Nat) : Int)).toNat = 7 - n % 8 := by omega
  have HX := Lib.hid (gx_bit (l.getD (n / 8) 0).toNat (7 - n % 8) (UInt8.toNat_lt _))
  have HG : Hid ((l.getD (n / 8) 0).toNat.testBit (7 - n % 8) = gbit l n) := Lib.hid rfl
  rw [HG.out] at HX
  clear hg HG
  generalize l.getD (n / 8) 0 = x at *
  generalize n / 8 = q at *
  generalize n % 8 = r at *
  go_enter Tryz.func130, Tryz.ntmps130
  go_wp2_with fail
  go_ret
  exact ⟨by rw [← HX.out]; rfl, rfl⟩

theorem be4_cells (n : Nat) (hn : n < 1073741824) : (#[.int .u8 ((n : Int) / 16777216), .int .u8 ((n : Int) / 65536 % 256), .int .u8 ((n : Int) / 256 % 256), .int .u8 ((n : Int) % 256)] : Array Value) = bcells (be 4 n) := by
  simp [bcells, Lib.byteCells, be]
  omega
theorem append_bytes (a : ByteArray) (l : List UInt8) : a ++ ⟨l.toArray⟩ = (⟨(a.data.toList ++ l).toArray⟩ : ByteArray) := by
  apply ByteArray.ext
  rw [ByteArray.data_append]
  simp

set_option maxHeartbeats 1000000 in
theorem counter_any (nonce : ByteArray) (n : Nat) (w : World) (hn : n < 1073741824) (hs : nonce.size = 12) :
    Calls Tryz.prog 73 #[.string nonce, .int .i64 (n : Int)] w fun e w' => e = .returned (.string ⟨(ctG nonce.data.toList n).toArray⟩) ∧ Below w.heap.size w w' := by
  have hcv := run_string_row (w.alloc (.cells (bcells (be 4 n)) 5)) w.heap.size 4 (be 4 n) (cells_of_bcells (blk_new w (.cells (bcells (be 4 n)) 5)))
  have hb := below_new w (.cells (bcells (be 4 n)) 5)
  rw [← be4_cells n hn, be_length] at hcv
  rw [← be4_cells n hn] at hb
  have h4 : (⟨(be 4 n).toArray⟩ : ByteArray).size = 4 := be_length _ _
  have HA := Lib.hid (append_bytes nonce (be 4 n))
  have HC : Hid (nonce.data.toList ++ be 4 n = ctG nonce.data.toList n) := Lib.hid rfl
  rw [HC.out] at HA
  clear HC
  generalize be 4 n = l4 at *
  have hsz : (nonce.size : Int) + ((⟨l4.toArray⟩ : ByteArray).size : Int) ≤ 9223372036854775807 := by omega
  go_enter Tryz.func73, Tryz.ntmps73
  go_wp2_with fail
  go_ret
  exact ⟨by rw [← HA.out]; rfl, hb⟩
set_option maxHeartbeats 1000000 in
theorem filled_any (s : ByteArray) (w : World) (hs : s.size ≤ 1099511627776) :
    Calls Tryz.prog 75 #[.string s] w fun e w' => e = .returned (.string ⟨(padG s.data.toList).toArray⟩) ∧ w = w' := by
  go_enter Tryz.func75, Tryz.ntmps75
  go_wp2_with fail
  go_loopw [0] (fun v wr => ∃ c : ByteArray, v = .string c ∧ c.size ≤ 1099511627776 + 16 ∧ (c.size ≤ (s.size + 15) / 16 * 16) ∧ Hid (padG c.data.toList = padG s.data.toList) ∧ w = wr) (fun v _ => (match v with | .string c => (s.size + 15) / 16 * 16 - c.size | _ => 0))
  case atStart => exact ⟨s, rfl, by omega, by omega, Lib.hid rfl, rfl⟩
  case round =>
    obtain ⟨c, rfl, hc1, hc2, HC, rfl⟩ := hrel
    by_cases h : c.size % 16 = 0
    · have hd2 : (((c.size : Int) % 16) != 0) = false := by simp; omega
      go_wp2_with fail
      go_ret
      exact ⟨by rw [← HC.out, padG_full _ (by rw [← Lib.size_eq]; exact h)]; rfl, by first | rfl | trivial⟩
    · have hd2 : (((c.size : Int) % 16) != 0) = true := by simp; omega
      have hz : (c ++ (⟨#[0]⟩ : ByteArray)).size = c.size + 1 := by rw [ByteArray.size_append]; rfl
      have HZ : Hid (padG (c ++ (⟨#[0]⟩ : ByteArray)).data.toList = padG s.data.toList) := Lib.hid (by
        rw [← HC.out, ByteArray.data_append, Array.toList_append]
        exact padG_snoc _ (by rw [← Lib.size_eq]; exact h))
      go_wp2_with fail
      go_roundw
      case rel => exact ⟨_, rfl, by omega, by omega, HZ, by first | rfl | trivial⟩
      case measure => show _ - (c ++ (⟨#[0]⟩ : ByteArray)).size < _ - c.size; omega

theorem long_byte (n k : Nat) (hn : n < 1099511627776) (hk : k < 8) : ((8 * n / 2 ^ (8 * (7 - k)) % 256 : Nat) : Int) = (((longG n).getD k 0).toNat : Int) := by
  rw [longG, be_getD _ _ _ hk, ← wbyte_be, wbyte_toNat, show 8 - 1 - k = 7 - k by omega]
  simp

set_option maxHeartbeats 1000000 in
theorem long_any (n : Nat) (w : World) (hn : n < 1099511627776) :
    Calls Tryz.prog 76 #[.int .i64 (n : Int)] w fun e w' => e = .returned (.string ⟨(longG n).toArray⟩) ∧ Below w.heap.size w w' := by
  obtain ⟨i0, hi, hz0, hz1, hz2⟩ := info_parts info_u8
  go_enter Tryz.func76, Tryz.ntmps76
  go_wp2_with fail
  generalize hBB : w.heap.size = B at *
  have HBB := Lib.hid hBB
  have hszB : B ≤ w.heap.size := by omega
  clear hBB
  go_loopw [3, 4] (fun v i wr => ∃ (k : Nat) (ao : Option Addr) (cp : Nat), k ≤ 8 ∧ i = .int .i64 (7 - (k : Int)) ∧ v = .slice ao k cp ∧ Own wr B (.slice ao k cp) (Lib.byteCells (genL (fun i => (longG n).getD i 0) k)) ∧ Below B w wr ∧ B ≤ wr.heap.size) (fun _ i _ => (intOf i + 1).toNat)
  case atStart => exact ⟨0, none, 0, by omega, rfl, rfl, Own.nil _ _, Below.refl _ _, hszB⟩
  case round =>
    obtain ⟨k, ao, cp, hk, rfl, rfl, hown, hb, hsz⟩ := hrel
    have HO := Lib.hid hown
    have HL := Lib.hid (bcs_length _ _ (genL_length (fun i => (longG n).getD i 0) k))
    clear hown
    by_cases hlt : k < 8
    · have hd : decide ((k : Int) ≤ 7) = true := by simp; omega
      have HN := Lib.hid (show Lib.byteCells (genL (fun i => (longG n).getD i 0) k) ++ [.int .u8 (((longG n).getD k 0).toNat : Int)] = Lib.byteCells (genL (fun i => (longG n).getD i 0) (k + 1)) from by rw [bcs_snoc, genL_succ])
      have HV := Lib.hid (long_byte n k hn hlt)
      have e1 : (8 * (7 - (k : Int))).toNat = 8 * (7 - k) := by omega
      have e2 : (0 : Int) ≤ 8 * (7 - (k : Int)) := by omega
      have E3 := Lib.hid (show (8 : Int) * (n : Int) / 2 ^ (8 * (7 - k)) % 256 = ((8 * n / 2 ^ (8 * (7 - k)) % 256 : Nat) : Int) by simp)
      have b0 := HO.out.alloc (.cells #[.int .u8 (8 * (n : Int) / 2 ^ (8 * (7 - k)) % 256)] 5)
      have HOA := Lib.hid b0
      clear b0
      generalize Lib.byteCells (genL (fun i => (longG n).getD i 0) k) = cu at *
      go_wp2_with (at_builtin; refine wpList_append_sl rfl (.tmp 9) (.tmp 16) 46 rfl B 5 i0 (.int .u8 0) 1 Tryz.underlying46 hi hz0 hz1 hz2 rfl ao k cp _ rfl HOA.out HL.out ⟨wr.heap.size, 0, none⟩ 1 1 [.int .u8 _] rfl rfl (cell_one_new _ _ _) ?b2 ?b3 ?b4 ?b5 ?_)
      case b2 => intro u hu; simp at hu; subst hu; rfl
      case b3 => omega
      case b4 => omega
      case b5 => simp; omega
      intro ao5 cp5 W5 hown5 hgrow5
      have hb5 : Below B w W5 := below_append (hb.alloc hsz _) (by simp; omega) HOA.out hgrow5
      have hsz5 : B ≤ W5.heap.size := by have := hgrow5.size; simp at this; omega
      rw [E3.out, HV.out, HN.out] at hown5
      clear hgrow5 HO HOA hb hsz
      go_wp2_with fail
      go_roundw
      case rel => exact ⟨k + 1, ao5, cp5, by omega, by congr 1; omega, rfl, hown5, hb5, hsz5⟩
      case measure => simp [intOf]; omega
    · have hd : decide ((k : Int) ≤ 7) = false := by simp; omega
      obtain rfl : k = 8 := by omega
      obtain ⟨G, rfl, hG⟩ := own_bytes HO.out (genL_length _ _) (by omega)
      rw [show genL (fun i => (longG n).getD i 0) 8 = longG n from bytes_ext (genL_length _ _) (longG_length n) fun i hi => by rw [genL, range_getD _ _ _ hi]] at hG
      have hl := longG_length n
      have hcv := run_string_at wr G 0 cp 8 (longG n) hl (fun j x hx => by
        have hj : j < 8 := by have := (List.getElem?_eq_some_iff.1 hx).1; omega
        rw [Nat.zero_add, hG j hj, List.getD_eq_getElem?_getD, hx]; rfl)
      clear hG hl HO HL
      go_wp2_with fail
      go_ret
      exact ⟨rfl, by rw [HBB.out]; exact hb⟩
end

section
open Go.RowKit Go.Sort
set_option maxRecDepth 100000
set_option linter.unusedSimpArgs false
set_option linter.unusedVariables false

theorem bcs_at (l : List UInt8) (j : Nat) (h : j < l.length) : (Lib.byteCells l)[j]? = some (.int .u8 ((l.getD j 0).toNat : Int)) := by
  simp [Lib.byteCells, List.getD_eq_getElem?_getD, h]
theorem ownS_at {W : World} {base g cap : Nat} {l : List UInt8} (h : OwnS W base g cap (Lib.byteCells l)) (j : Nat) (hj : j < l.length) : W.cell? ⟨g, j, none⟩ = some (.int .u8 ((l.getD j 0).toNat : Int)) := h.cells j _ (bcs_at l j hj)
theorem u8_and_one (x : UInt8) : bits .and .u8 (x.toNat : Int) 1 = ((x.toNat % 2 : Nat) : Int) := by
  have h := u8_and_nat x.toNat 1 (UInt8.toNat_lt x) (by decide)
  rw [Nat.and_one_is_mod] at h
  exact h
/-- The block while it is moved on, from its end. -/
def mvP (v : List UInt8) (i : Nat) : List UInt8 := (List.range 16).map fun j => if i < j then shB (v.getD j 0) (v.getD (j - 1) 0) else v.getD j 0
theorem mvP_length (v : List UInt8) (i : Nat) : (mvP v i).length = 16 := by simp [mvP]
theorem mvP_start (v : List UInt8) (h : v.length = 16) : mvP v 15 = v := bytes_ext (mvP_length _ _) h fun j hj => by rw [mvP, range_getD _ _ _ hj, if_neg (by omega)]
theorem mvP_at (v : List UInt8) (i j : Nat) (h : j ≤ i) (hj : j < 16) : (mvP v i).getD j 0 = v.getD j 0 := by rw [mvP, range_getD _ _ _ hj, if_neg (by omega)]
theorem mvP_succ (v : List UInt8) (i : Nat) (h0 : 0 < i) (h : i ≤ 15) : (mvP v i).set i (shB (v.getD i 0) (v.getD (i - 1) 0)) = mvP v (i - 1) := by
  refine bytes_ext (by rw [List.length_set, mvP_length]) (mvP_length _ _) fun j hj => ?_
  rw [set_getD _ _ _ _ (by rw [mvP_length]; omega)]
  unfold mvP
  rw [range_getD _ _ _ hj, range_getD _ _ _ hj]
  by_cases e : j = i
  · subst e; rw [if_pos rfl, if_pos (by omega)]
  · rw [if_neg e]
    by_cases h2 : i < j
    · rw [if_pos h2, if_pos (by omega)]
    · rw [if_neg h2, if_neg (by omega)]
theorem mvP_last (v : List UInt8) (x : UInt8) (hx : x = UInt8.ofNat ((v.getD 0 0).toNat / 2) ^^^ (if (v.getD 15 0).toNat % 2 = 1 then 0xe1 else 0)) : (mvP v 0).set 0 x = shG v := by
  refine bytes_ext (by rw [List.length_set, mvP_length]) (shG_length _) fun j hj => ?_
  rw [set_getD _ _ _ _ (by rw [mvP_length]; omega), shG, range_getD _ _ _ hj, mvP, range_getD _ _ _ hj]
  by_cases e : j = 0
  · rw [if_pos e, if_pos e, hx]
  · rw [if_neg e, if_neg e, if_pos (by omega)]
theorem mvP_end (v : List UInt8) (h : v.length = 16) : (mvP v 0).set 0 ((UInt8.ofNat ((v.getD 0 0).toNat / 2)) ^^^ 0xe1) = if (v.getD 15 0).toNat % 2 = 1 then shG v else (mvP v 0).set 0 ((UInt8.ofNat ((v.getD 0 0).toNat / 2)) ^^^ 0xe1) := by
  split
  · rename_i h1; exact mvP_last v _ (by rw [if_pos h1])
  · rfl
theorem mvP_even (v : List UInt8) (h : v.length = 16) (h1 : ¬ (v.getD 15 0).toNat % 2 = 1) : List.map (fun b : UInt8 => Value.int .u8 (b.toNat : Int)) ((mvP v 0).set 0 (UInt8.ofNat ((v.getD 0 0).toNat / 2))) = Lib.byteCells (shG v) := by
  rw [mvP_last v _ (by rw [if_neg h1, UInt8.xor_zero])]; rfl
theorem sh_walk (x y : UInt8) : bits .or .u8 ((x.toNat : Int) / 2) ((y.toNat : Int) * 128 % 256) = ((shB x y).toNat : Int) := by
  have e1 : (x.toNat : Int) / 2 = ((x.toNat / 2 : Nat) : Int) := by omega
  have e2 : (y.toNat : Int) * 128 % 256 = ((y.toNat * 128 % 256 : Nat) : Int) := by omega
  rw [e1, e2, u8_or_nat _ _ (half_lt x) (Nat.mod_lt _ (by decide)), shB_toNat]
theorem sh_walk2 (x y : UInt8) : bits .or .u8 ((x.toNat : Int) / 2) (IntKind.u8.wrap ((y.toNat : Int) * 128)) = ((shB x y).toNat : Int) := by
  rw [IntKind.wrap_u8', sh_walk]

set_option maxHeartbeats 4000000 in
theorem rtimes_any (la lb : List UInt8) (ga ca gb cb : Nat) (w : World) (ha : la.length = 16) (hb : lb.length = 16) (hA : BytesAt w ga 16 la) (hBt : BytesAt w gb 16 lb) :
    Calls Tryz.prog 104 #[.slice (some ⟨ga, 0, none⟩) 16 ca, .slice (some ⟨gb, 0, none⟩) 16 cb] w fun e w' => (∃ O, e = .returned (.slice (some ⟨O, 0, none⟩) 16 16) ∧ w.heap.size ≤ O ∧ w'.heap[O]? = some (.cells (bcells (prodG la lb)) 5)) ∧ Below w.heap.size w w' := by
  obtain ⟨i0, hi, hz0, hz1, hz2⟩ := info_parts info_u8
  have hmk : ∀ W : World, (Instr.makeSlice 46 (.int .i64 16) (.int .i64 16)).run Tryz.prog W = .ok (.slice (some ⟨W.heap.size, 0, none⟩) 16 16) (W.alloc (.cells (bcells (oG la lb 0)) 5)) := fun W => by
    have h := run_makeSlice W 46 5 i0 (.int .u8 0) Tryz.underlying46 hi hz0 .i64 .i64 16 16 (by omega) (by omega) (by rw [hz1]; omega) (by rw [hz2]; omega) (by omega)
    rw [hz1, made_zero] at h
    exact h
  have HO0 := Lib.hid (blk_new w (.cells (bcells (oG la lb 0)) 5))
  have hb0 := below_new w (.cells (bcells (oG la lb 0)) 5)
  have hal : ga < w.heap.size := block_lt_of_cell (hA 0 (by omega))
  have hbl : gb < w.heap.size := block_lt_of_cell (hBt 0 (by omega))
  have HA1 := Lib.hid (hA.step hb0)
  have HBt := Lib.hid hBt
  have HAL := Lib.hid ha; have HBL := Lib.hid hb
  have HE0 := Lib.hid mvP_even
  have hsz0 : (w.alloc (.cells (bcells (oG la lb 0)) 5)).heap.size = w.heap.size + 1 := by simp
  have HNil := Lib.hid (Own.nil (w.alloc (.cells (bcells (oG la lb 0)) 5)) (w.heap.size + 1))
  have HCl := Lib.hid (bcs_length la 16 ha)
  have HCa := Lib.hid (show ∀ j u, (Lib.byteCells la)[j]? = some u → (w.alloc (.cells (bcells (oG la lb 0)) 5)).cell? ((⟨ga, 0, none⟩ : Addr).add j) = some u from fun j u hj => by
    have hj2 : j < la.length := by have := (List.getElem?_eq_some_iff.1 hj).1; rwa [Lib.byteCells_length] at this
    rw [bcs_at la j hj2] at hj
    cases hj
    rw [Addr.add_lit, Nat.zero_add]
    exact HA1.out j (by omega))
  clear hA hBt ha hb
  go_enter Tryz.func104, Tryz.ntmps104
  go_wp2_with (at_builtin; refine wpList_append_sl rfl (.tmp 12) (.tmp 13) 46 rfl (w.heap.size + 1) 5 i0 (.int .u8 0) 1 Tryz.underlying46 hi hz0 hz1 hz2 rfl none 0 0 [] rfl HNil.out rfl ⟨ga, 0, none⟩ 16 ca (Lib.byteCells la) rfl HCl.out HCa.out ?b2 ?b3 ?b4 ?b5 ?_)
  case b2 => exact Lib.byteCells_one _
  case b3 => omega
  case b4 => omega
  case b5 => omega
  intro ao cp W1 hown hgrow

  obtain ⟨g, c', hv, hos, hgl⟩ := hown.some (by rw [HCl.out]; omega)
  injection hv with hv1 hv2 hv3
  subst hv1 hv3
  have hblk := hgrow.block w.heap.size (by omega) (by simp [Value.ownBlock])
  have HO1 := Lib.hid (hblk.trans HO0.out)
  have hb1 : Below w.heap.size w W1 := below_append hb0 (by omega) (own_weaken HNil.out (Nat.le_succ _)) hgrow
  have HV0 := Lib.hid (show OwnS W1 (w.heap.size + 1) g cp (Lib.byteCells (vG la 0)) from hos)
  have hgF : w.heap.size + 1 ≤ g := hos.base
  clear hmk HO0 hb0 HA1 HNil HCa HCl hown hgrow hos hblk hv2 hi hz0 hz1 hz2
  obtain ⟨F, hF⟩ : ∃ F, F = w.heap.size + 1 := ⟨_, rfl⟩
  obtain ⟨O, hO⟩ : ∃ O, O = w.heap.size := ⟨_, rfl⟩
  rw [← hF] at HV0
  rw [← hO] at HO1
  have HOe := Lib.hid hO
  have hFw : w.heap.size < g := by omega
  have hOg : O ≠ g := by omega
  have hOw : w.heap.size ≤ O := by omega
  clear hF
  go_wp2_with fail
  rw [← HOe.out]
  clear hO
  go_loopw [7, 8, 9, 10] (fun nv _ _ _ wr => ∃ n : Nat, n ≤ 128 ∧ nv = .int .i64 (n : Int) ∧ wr.heap[O]? = some (.cells (bcells (oG la lb n)) 5) ∧ OwnS wr F g cp (Lib.byteCells (vG la n)) ∧ Below w.heap.size w wr) (fun nv _ _ _ _ => 128 - (intOf nv).toNat)
  case atStart => exact ⟨0, by omega, rfl, HO1.out, HV0.out, hb1⟩
  case round =>
    clear HO1 HV0 hb1
    obtain ⟨n, hn, rfl, ho, hv, hb⟩ := hrel
    have HO := Lib.hid ho; have HV := Lib.hid hv
    clear ho hv
    by_cases hlt : n < 128
    · have hd : decide ((n : Int) < 128) = true := by simp; omega
      have HBit := Lib.hid (bit_any gb cb lb n wr hlt (HBt.out.below hb hbl))
      have hv16 := vG_length la HAL.out n
      have ho16 := oG_length la lb n
      cases hbt : gbit lb n with
      | false =>
        rw [hbt, show bitI false = 0 from rfl] at HBit
        have HOn := Lib.hid (show wr.heap[O]? = some (.cells (bcells (oG la lb (n + 1))) 5) from by rw [oG, hbt]; exact HO.out)
        clear HO hbt
        have HO := HOn
        clear HOn
        go_wp2_with fail
        refine HBit.out.mono ?_
        rintro e Wb ⟨rfl, rfl⟩
        clear HBit
        have HTop := Lib.hid (vG_length la HAL.out n)
        have c15 : wr.cell? ⟨g, 15, none⟩ = some (.int .u8 (((vG la n).getD 15 0).toNat : Int)) := ownS_at HV.out 15 (by rw [HTop.out]; omega)
        have HE := Lib.hid (mvP_end (vG la n) HTop.out)
        have h15 := UInt8.toNat_lt ((vG la n).getD 15 0)
        have HA := Lib.hid (u8_and_one ((vG la n).getD 15 0))
        have HV15 := Lib.hid (show OwnS wr F g cp (Lib.byteCells (mvP (vG la n) 15)) from by rw [mvP_start _ HTop.out]; exact HV.out)
        have HNx : Hid (vG la (n + 1) = shG (vG la n)) := Lib.hid rfl
        clear HV
        generalize vG la n = v at *
        generalize hx15 : v.getD 15 0 = x15 at *
        have HX15 := Lib.hid hx15
        clear hx15
        go_wp2_with fail
        rw [HA.out]
        clear c15 HA
        have hb' := hb
        go_loopw [10] (fun iv wr => ∃ i : Nat, i ≤ 15 ∧ iv = .int .i64 (i : Int) ∧ wr.heap[O]? = some (.cells (bcells (oG la lb (n + 1))) 5) ∧ OwnS wr F g cp (Lib.byteCells (mvP v i)) ∧ Below w.heap.size w wr) (fun iv _ => (intOf iv).toNat)
        case atStart => exact ⟨15, by omega, rfl, HO.out, HV15.out, hb'⟩
        case round =>
          clear HO HV15 hb' hb
          obtain ⟨i, hi, rfl, ho, hv, hb⟩ := hrel
          have HO := Lib.hid ho; have HV := Lib.hid hv
          clear ho hv
          have HSL := Lib.hid (mvP_length v i)
          by_cases hlt2 : 0 < i
          · have hd3 : decide ((0 : Int) < (i : Int)) = true := by simp; omega
            have ci : wr.cell? ⟨g, i, none⟩ = some (.int .u8 ((v.getD i 0).toNat : Int)) := by rw [← mvP_at v i i (Nat.le_refl _) (by omega)]; exact ownS_at HV.out i (by rw [HSL.out]; omega)
            have cj : wr.cell? ⟨g, i - 1, none⟩ = some (.int .u8 ((v.getD (i - 1) 0).toNat : Int)) := by rw [← mvP_at v i (i - 1) (by omega) (by omega)]; exact ownS_at HV.out (i - 1) (by rw [HSL.out]; omega)
            have HSet := Lib.hid (mvP_succ v i hlt2 hi)
            have hw1 := sh_walk (v.getD i 0) (v.getD (i - 1) 0)
            have hw2 := sh_walk2 (v.getD i 0) (v.getD (i - 1) 0)
            have HCi := Lib.hid (show (Lib.byteCells (mvP v i))[i]? = some (.int .u8 ((v.getD i 0).toNat : Int)) from by
              rw [← mvP_at v i i (Nat.le_refl _) (by omega)]; exact bcs_at _ i (by rw [HSL.out]; omega))
            generalize shB (v.getD i 0) (v.getD (i - 1) 0) = z at *
            generalize v.getD i 0 = x at *
            generalize v.getD (i - 1) 0 = y at *
            have e1 : IntKind.i64.wrap ((i : Int) - 1) = (i : Int) - 1 := IntWalk.i64_in _ (by omega)
            have e2 : ((i : Int) - 1).toNat = i - 1 := by omega
            have e3 : (0 : Int) ≤ (i : Int) - 1 := by omega
            have e4 : (i : Int) - 1 < 16 := by omega
            have e5 : (i : Int) < 16 := by omega
            have HW1 := Lib.hid hw1; have HW2 := Lib.hid hw2
            clear hw1 hw2
            go_wp2_with fail
            have q1 := cell_regrown ci
            have q2 := cell_regrown cj
            refine wp_region_reads_tail 15 (by kernel_rfl) (by kernel_rfl) ?_
            simp only [List.take_succ_cons, List.take_zero, List.drop_succ_cons, List.drop_zero]
            repeat (first | go_big_quiet_step (fail) | quiet_step (fail))
            refine wpQuiet_nil ?_
            intro Y hY
            have hlO := blk_lt HO.out
            have HO2 := Lib.hid (blk_below hY hlO HO.out)
            have HV2 := Lib.hid (HV.out.below2 hY)
            have hb2 : Below w.heap.size w Y := hb.trans (hY.mono hb.size)
            have hjl : i < (Lib.byteCells (mvP v i)).length := by rw [Lib.byteCells_length, HSL.out]; omega
            have cy := HV2.out.cells i _ HCi.out
            have fy := (HV2.out.room i (Nat.lt_of_lt_of_le hjl HV2.out.le)).2
            have HPut := Lib.hid (HV2.out.put i hjl (.int .u8 (z.toNat : Int)))
            rw [Lib.byteCells, ← List.map_set (f := fun b : UInt8 => Value.int .u8 (b.toNat : Int)), HSet.out] at HPut
            clear HO HV q1 q2 ci cj hY hb hlO
            first | rw [HW1.out] | rw [HW2.out] | skip
            go_wp2_with fail
            go_roundw
            case rel => exact ⟨i - 1, by omega, by congr 1; omega, by rw [heap_setCell_other _ _ _ _ (by simp <;> omega)]; exact HO2.out, HPut.out, hb2.setCell (by simp <;> omega) _⟩
            case measure => simp [intOf]; omega
          · have hd3 : decide ((0 : Int) < (i : Int)) = false := by simp; omega
            obtain rfl : i = 0 := by omega
            have c0 : wr.cell? ⟨g, 0, none⟩ = some (.int .u8 ((v.getD 0 0).toNat : Int)) := by rw [← mvP_at v 0 0 (Nat.le_refl _) (by omega)]; exact ownS_at HV.out 0 (by rw [HSL.out]; omega)
            have h0l : 0 < (Lib.byteCells (mvP v 0)).length := by rw [Lib.byteCells_length, HSL.out]; omega
            have f0 := (HV.out.room 0 (Nat.lt_of_lt_of_le h0l HV.out.le)).2
            have x0 := UInt8.toNat_lt (v.getD 0 0)
            have P1 := HV.out.put 0 h0l (.int .u8 ((UInt8.ofNat ((v.getD 0 0).toNat / 2)).toNat : Int))
            rw [Lib.byteCells, ← List.map_set (f := fun b : UInt8 => Value.int .u8 (b.toNat : Int))] at P1
            have e0 : ((UInt8.ofNat ((v.getD 0 0).toNat / 2)).toNat : Int) = ((v.getD 0 0).toNat : Int) / 2 := by simp only [UInt8.toNat_ofNat']; omega
            rw [e0] at P1
            have r1 : (wr.setCell ⟨g, 0, none⟩ (.int .u8 (((v.getD 0 0).toNat : Int) / 2))).heap[O]? = some (.cells (bcells (oG la lb (n + 1))) 5) := by rw [heap_setCell_other _ _ _ _ (by simp <;> omega)]; exact HO.out
            have hb1 : Below w.heap.size w (wr.setCell ⟨g, 0, none⟩ (.int .u8 (((v.getD 0 0).toNat : Int) / 2))) := hb.setCell (by simp <;> omega) _
            have HP1 := Lib.hid P1
            have HR1 := Lib.hid r1
            clear P1 r1
            by_cases hodd : x15.toNat % 2 = 1
            · have hd4 : (((x15.toNat % 2 : Nat) : Int) == 1) = true := by rw [hodd]; rfl
              have hd5 : ((x15.toNat : Int) % 2 == 1) = true := by simp; omega
              have h0l1 : 0 < (Lib.byteCells ((mvP v 0).set 0 (UInt8.ofNat ((v.getD 0 0).toNat / 2)))).length := by rw [Lib.byteCells_length, List.length_set, HSL.out]; omega
              have c1 : (wr.setCell ⟨g, 0, none⟩ (.int .u8 (((v.getD 0 0).toNat : Int) / 2))).cell? ⟨g, 0, none⟩ = some (.int .u8 (((v.getD 0 0).toNat : Int) / 2)) := by
                have hh := HP1.out.cells 0 _ (by rw [show (List.map (fun b : UInt8 => Value.int .u8 (b.toNat : Int)) ((mvP v 0).set 0 (UInt8.ofNat ((v.getD 0 0).toNat / 2)))) = Lib.byteCells ((mvP v 0).set 0 (UInt8.ofNat ((v.getD 0 0).toNat / 2))) from rfl, bcs_at _ 0 (by rw [List.length_set, HSL.out]; omega), set_getD _ _ _ _ (by rw [HSL.out]; omega), if_pos rfl])
                rw [e0] at hh
                exact hh
              have f1 := (HP1.out.room 0 (Nat.lt_of_lt_of_le h0l1 HP1.out.le)).2
              have P2 := HP1.out.put 0 h0l1 (.int .u8 (((UInt8.ofNat ((v.getD 0 0).toNat / 2)) ^^^ 0xe1).toNat : Int))
              rw [← List.map_set (f := fun b : UInt8 => Value.int .u8 (b.toNat : Int)), List.set_set, HE.out, if_pos hodd] at P2
              have ex := au8x (UInt8.ofNat ((v.getD 0 0).toNat / 2)) 0xe1
              rw [e0, show (((0xe1 : UInt8).toNat : Nat) : Int) = 225 from rfl] at ex
              have r2 : ((wr.setCell ⟨g, 0, none⟩ (.int .u8 (((v.getD 0 0).toNat : Int) / 2))).setCell ⟨g, 0, none⟩ (.int .u8 (((UInt8.ofNat ((v.getD 0 0).toNat / 2)) ^^^ 0xe1).toNat : Int))).heap[O]? = some (.cells (bcells (oG la lb (n + 1))) 5) := by rw [heap_setCell_other _ _ _ _ (by simp <;> omega)]; exact HR1.out
              have hb2 : Below w.heap.size w ((wr.setCell ⟨g, 0, none⟩ (.int .u8 (((v.getD 0 0).toNat : Int) / 2))).setCell ⟨g, 0, none⟩ (.int .u8 (((UInt8.ofNat ((v.getD 0 0).toNat / 2)) ^^^ 0xe1).toNat : Int))) := hb1.setCell (by simp <;> omega) _
              have HP2 := Lib.hid P2; have HR2 := Lib.hid r2
              clear P2 r2 HE e0
              generalize (((UInt8.ofNat ((v.getD 0 0).toNat / 2)) ^^^ 0xe1).toNat : Int) = zz at *
              generalize ((v.getD 0 0).toNat : Int) = y0 at *
              go_wp2_with fail
              go_roundw
              case rel => exact ⟨n + 1, by omega, by go_num, HR2.out, by rw [HNx.out]; exact HP2.out, hb2⟩
              case measure => simp [intOf]; omega
            · have hd4 : (((x15.toNat % 2 : Nat) : Int) == 1) = false := by rw [show x15.toNat % 2 = 0 by omega]; rfl
              have hd5 : ((x15.toNat : Int) % 2 == 1) = false := by simp; omega
              have P2 := HP1.out
              rw [HE0.out v HTop.out (by rw [HX15.out]; exact hodd)] at P2
              have HP2 := Lib.hid P2
              clear P2 HE e0
              generalize ((v.getD 0 0).toNat : Int) = y0 at *
              go_wp2_with fail
              go_roundw
              case rel => exact ⟨n + 1, by omega, by go_num, HR1.out, by rw [HNx.out]; exact HP2.out, hb1⟩
              case measure => simp [intOf]; omega
      | true =>
        rw [hbt, show bitI true = 1 from rfl] at HBit
        have HON := Lib.hid (show plS (oG la lb n) (vG la n) = oG la lb (n + 1) from by rw [oG, hbt]; rfl)
        clear hbt
        go_wp2_with fail
        refine HBit.out.mono ?_
        rintro e Wb ⟨rfl, rfl⟩
        clear HBit
        go_wp2_with fail
        have hb'' := hb
        have HV'' := HV
        go_loopw [8] (fun iv wr => ∃ i : Nat, i ≤ 16 ∧ iv = .int .i64 (i : Int) ∧ wr.heap[O]? = some (.cells (bcells (plP (oG la lb n) (vG la n) i)) 5) ∧ OwnS wr F g cp (Lib.byteCells (vG la n)) ∧ Below w.heap.size w wr) (fun iv _ => 16 - (intOf iv).toNat)
        case atStart => exact ⟨0, by omega, rfl, by rw [plP_zero _ _ ho16]; exact HO.out, HV''.out, hb''⟩
        case round =>
          clear HO HV'' HV hb'' hb
          obtain ⟨i, hi, rfl, ho, hv, hb⟩ := hrel
          have HO := Lib.hid ho; have HV := Lib.hid hv
          clear ho hv
          by_cases hli : i < 16
          · have hd2 : decide ((i : Int) < 16) = true := by simp; omega
            have HL := Lib.hid (plP_length (oG la lb n) (vG la n) i)
            have cx := bcell_at HO.out i (by rw [HL.out]; exact hli)
            have ck := ownS_at HV.out i (by rw [hv16]; exact hli)
            have HX := Lib.hid (au8x ((plP (oG la lb n) (vG la n) i).getD i 0) ((vG la n).getD i 0))
            have HSet := Lib.hid (fun (Y : World) (hY : Y.heap[O]? = some (.cells (bcells (plP (oG la lb n) (vG la n) i)) 5)) => bheap_set hY i ((plP (oG la lb n) (vG la n) i).getD i 0 ^^^ (vG la n).getD i 0))
            rw [plP_succ _ _ i hli] at HSet
            generalize (plP (oG la lb n) (vG la n) i).getD i 0 = x at *
            generalize (vG la n).getD i 0 = y at *
            go_wp2_with fail
            have q1 := cell_regrown cx
            have q2 := cell_regrown ck
            refine wp_region_reads_tail 12 (by kernel_rfl) (by kernel_rfl) ?_
            simp only [List.take_succ_cons, List.take_zero, List.drop_succ_cons, List.drop_zero]
            repeat (first | go_big_quiet_step (fail) | quiet_step (fail))
            refine wpQuiet_nil ?_
            intro Y hY
            have hlO := blk_lt HO.out
            have HO2 := Lib.hid (blk_below hY hlO HO.out)
            have HV2 := Lib.hid (HV.out.below2 hY)
            have hb2 : Below w.heap.size w Y := hb.trans (hY.mono hb.size)
            have cy := bcell_at HO2.out i (by rw [HL.out]; exact hli)
            have fy := frozen_of_row Y O i _ _ HO2.out
            clear hY q1 q2 cx ck HO HV hb hlO
            rw [HX.out]
            go_wp2_with fail
            go_roundw
            case rel => exact ⟨i + 1, by omega, by go_num, HSet.out Y HO2.out, HV2.out.keep (heap_setCell_other _ _ _ _ (by simpa using (Ne.symm hOg))), hb2.setCell (by simpa using hOw) _⟩
            case measure => simp [intOf]; omega
          · have hd2 : decide ((i : Int) < 16) = false := by simp; omega
            obtain rfl : i = 16 := by omega
            have HOn := Lib.hid (show wr.heap[O]? = some (.cells (bcells (oG la lb (n + 1))) 5) from by rw [← HON.out, ← plP_full]; exact HO.out)
            clear HO
            have HO := HOn
            clear HOn
            have HTop := Lib.hid (vG_length la HAL.out n)
            have c15 : wr.cell? ⟨g, 15, none⟩ = some (.int .u8 (((vG la n).getD 15 0).toNat : Int)) := ownS_at HV.out 15 (by rw [HTop.out]; omega)
            have HE := Lib.hid (mvP_end (vG la n) HTop.out)
            have h15 := UInt8.toNat_lt ((vG la n).getD 15 0)
            have HA := Lib.hid (u8_and_one ((vG la n).getD 15 0))
            have HV15 := Lib.hid (show OwnS wr F g cp (Lib.byteCells (mvP (vG la n) 15)) from by rw [mvP_start _ HTop.out]; exact HV.out)
            have HNx : Hid (vG la (n + 1) = shG (vG la n)) := Lib.hid rfl
            clear HV
            generalize vG la n = v at *
            generalize hx15 : v.getD 15 0 = x15 at *
            have HX15 := Lib.hid hx15
            clear hx15
            go_wp2_with fail
            rw [HA.out]
            clear c15 HA
            have hb' := hb
            go_loopw [10] (fun iv wr => ∃ i : Nat, i ≤ 15 ∧ iv = .int .i64 (i : Int) ∧ wr.heap[O]? = some (.cells (bcells (oG la lb (n + 1))) 5) ∧ OwnS wr F g cp (Lib.byteCells (mvP v i)) ∧ Below w.heap.size w wr) (fun iv _ => (intOf iv).toNat)
            case atStart => exact ⟨15, by omega, rfl, HO.out, HV15.out, hb'⟩
            case round =>
              clear HO HV15 hb' hb
              obtain ⟨i, hi, rfl, ho, hv, hb⟩ := hrel
              have HO := Lib.hid ho; have HV := Lib.hid hv
              clear ho hv
              have HSL := Lib.hid (mvP_length v i)
              by_cases hlt2 : 0 < i
              · have hd3 : decide ((0 : Int) < (i : Int)) = true := by simp; omega
                have ci : wr.cell? ⟨g, i, none⟩ = some (.int .u8 ((v.getD i 0).toNat : Int)) := by rw [← mvP_at v i i (Nat.le_refl _) (by omega)]; exact ownS_at HV.out i (by rw [HSL.out]; omega)
                have cj : wr.cell? ⟨g, i - 1, none⟩ = some (.int .u8 ((v.getD (i - 1) 0).toNat : Int)) := by rw [← mvP_at v i (i - 1) (by omega) (by omega)]; exact ownS_at HV.out (i - 1) (by rw [HSL.out]; omega)
                have HSet := Lib.hid (mvP_succ v i hlt2 hi)
                have hw1 := sh_walk (v.getD i 0) (v.getD (i - 1) 0)
                have hw2 := sh_walk2 (v.getD i 0) (v.getD (i - 1) 0)
                have HCi := Lib.hid (show (Lib.byteCells (mvP v i))[i]? = some (.int .u8 ((v.getD i 0).toNat : Int)) from by
                  rw [← mvP_at v i i (Nat.le_refl _) (by omega)]; exact bcs_at _ i (by rw [HSL.out]; omega))
                generalize shB (v.getD i 0) (v.getD (i - 1) 0) = z at *
                generalize v.getD i 0 = x at *
                generalize v.getD (i - 1) 0 = y at *
                have e1 : IntKind.i64.wrap ((i : Int) - 1) = (i : Int) - 1 := IntWalk.i64_in _ (by omega)
                have e2 : ((i : Int) - 1).toNat = i - 1 := by omega
                have e3 : (0 : Int) ≤ (i : Int) - 1 := by omega
                have e4 : (i : Int) - 1 < 16 := by omega
                have e5 : (i : Int) < 16 := by omega
                have HW1 := Lib.hid hw1; have HW2 := Lib.hid hw2
                clear hw1 hw2
                go_wp2_with fail
                have q1 := cell_regrown ci
                have q2 := cell_regrown cj
                refine wp_region_reads_tail 15 (by kernel_rfl) (by kernel_rfl) ?_
                simp only [List.take_succ_cons, List.take_zero, List.drop_succ_cons, List.drop_zero]
                repeat (first | go_big_quiet_step (fail) | quiet_step (fail))
                refine wpQuiet_nil ?_
                intro Y hY
                have hlO := blk_lt HO.out
                have HO2 := Lib.hid (blk_below hY hlO HO.out)
                have HV2 := Lib.hid (HV.out.below2 hY)
                have hb2 : Below w.heap.size w Y := hb.trans (hY.mono hb.size)
                have hjl : i < (Lib.byteCells (mvP v i)).length := by rw [Lib.byteCells_length, HSL.out]; omega
                have cy := HV2.out.cells i _ HCi.out
                have fy := (HV2.out.room i (Nat.lt_of_lt_of_le hjl HV2.out.le)).2
                have HPut := Lib.hid (HV2.out.put i hjl (.int .u8 (z.toNat : Int)))
                rw [Lib.byteCells, ← List.map_set (f := fun b : UInt8 => Value.int .u8 (b.toNat : Int)), HSet.out] at HPut
                clear HO HV q1 q2 ci cj hY hb hlO
                first | rw [HW1.out] | rw [HW2.out] | skip
                go_wp2_with fail
                go_roundw
                case rel => exact ⟨i - 1, by omega, by congr 1; omega, by rw [heap_setCell_other _ _ _ _ (by simp <;> omega)]; exact HO2.out, HPut.out, hb2.setCell (by simp <;> omega) _⟩
                case measure => simp [intOf]; omega
              · have hd3 : decide ((0 : Int) < (i : Int)) = false := by simp; omega
                obtain rfl : i = 0 := by omega
                have c0 : wr.cell? ⟨g, 0, none⟩ = some (.int .u8 ((v.getD 0 0).toNat : Int)) := by rw [← mvP_at v 0 0 (Nat.le_refl _) (by omega)]; exact ownS_at HV.out 0 (by rw [HSL.out]; omega)
                have h0l : 0 < (Lib.byteCells (mvP v 0)).length := by rw [Lib.byteCells_length, HSL.out]; omega
                have f0 := (HV.out.room 0 (Nat.lt_of_lt_of_le h0l HV.out.le)).2
                have x0 := UInt8.toNat_lt (v.getD 0 0)
                have P1 := HV.out.put 0 h0l (.int .u8 ((UInt8.ofNat ((v.getD 0 0).toNat / 2)).toNat : Int))
                rw [Lib.byteCells, ← List.map_set (f := fun b : UInt8 => Value.int .u8 (b.toNat : Int))] at P1
                have e0 : ((UInt8.ofNat ((v.getD 0 0).toNat / 2)).toNat : Int) = ((v.getD 0 0).toNat : Int) / 2 := by simp only [UInt8.toNat_ofNat']; omega
                rw [e0] at P1
                have r1 : (wr.setCell ⟨g, 0, none⟩ (.int .u8 (((v.getD 0 0).toNat : Int) / 2))).heap[O]? = some (.cells (bcells (oG la lb (n + 1))) 5) := by rw [heap_setCell_other _ _ _ _ (by simp <;> omega)]; exact HO.out
                have hb1 : Below w.heap.size w (wr.setCell ⟨g, 0, none⟩ (.int .u8 (((v.getD 0 0).toNat : Int) / 2))) := hb.setCell (by simp <;> omega) _
                have HP1 := Lib.hid P1
                have HR1 := Lib.hid r1
                clear P1 r1
                by_cases hodd : x15.toNat % 2 = 1
                · have hd4 : (((x15.toNat % 2 : Nat) : Int) == 1) = true := by rw [hodd]; rfl
                  have hd5 : ((x15.toNat : Int) % 2 == 1) = true := by simp; omega
                  have h0l1 : 0 < (Lib.byteCells ((mvP v 0).set 0 (UInt8.ofNat ((v.getD 0 0).toNat / 2)))).length := by rw [Lib.byteCells_length, List.length_set, HSL.out]; omega
                  have c1 : (wr.setCell ⟨g, 0, none⟩ (.int .u8 (((v.getD 0 0).toNat : Int) / 2))).cell? ⟨g, 0, none⟩ = some (.int .u8 (((v.getD 0 0).toNat : Int) / 2)) := by
                    have hh := HP1.out.cells 0 _ (by rw [show (List.map (fun b : UInt8 => Value.int .u8 (b.toNat : Int)) ((mvP v 0).set 0 (UInt8.ofNat ((v.getD 0 0).toNat / 2)))) = Lib.byteCells ((mvP v 0).set 0 (UInt8.ofNat ((v.getD 0 0).toNat / 2))) from rfl, bcs_at _ 0 (by rw [List.length_set, HSL.out]; omega), set_getD _ _ _ _ (by rw [HSL.out]; omega), if_pos rfl])
                    rw [e0] at hh
                    exact hh
                  have f1 := (HP1.out.room 0 (Nat.lt_of_lt_of_le h0l1 HP1.out.le)).2
                  have P2 := HP1.out.put 0 h0l1 (.int .u8 (((UInt8.ofNat ((v.getD 0 0).toNat / 2)) ^^^ 0xe1).toNat : Int))
                  rw [← List.map_set (f := fun b : UInt8 => Value.int .u8 (b.toNat : Int)), List.set_set, HE.out, if_pos hodd] at P2
                  have ex := au8x (UInt8.ofNat ((v.getD 0 0).toNat / 2)) 0xe1
                  rw [e0, show (((0xe1 : UInt8).toNat : Nat) : Int) = 225 from rfl] at ex
                  have r2 : ((wr.setCell ⟨g, 0, none⟩ (.int .u8 (((v.getD 0 0).toNat : Int) / 2))).setCell ⟨g, 0, none⟩ (.int .u8 (((UInt8.ofNat ((v.getD 0 0).toNat / 2)) ^^^ 0xe1).toNat : Int))).heap[O]? = some (.cells (bcells (oG la lb (n + 1))) 5) := by rw [heap_setCell_other _ _ _ _ (by simp <;> omega)]; exact HR1.out
                  have hb2 : Below w.heap.size w ((wr.setCell ⟨g, 0, none⟩ (.int .u8 (((v.getD 0 0).toNat : Int) / 2))).setCell ⟨g, 0, none⟩ (.int .u8 (((UInt8.ofNat ((v.getD 0 0).toNat / 2)) ^^^ 0xe1).toNat : Int))) := hb1.setCell (by simp <;> omega) _
                  have HP2 := Lib.hid P2; have HR2 := Lib.hid r2
                  clear P2 r2 HE e0
                  generalize (((UInt8.ofNat ((v.getD 0 0).toNat / 2)) ^^^ 0xe1).toNat : Int) = zz at *
                  generalize ((v.getD 0 0).toNat : Int) = y0 at *
                  go_wp2_with fail
                  go_roundw
                  case rel => exact ⟨n + 1, by omega, by go_num, HR2.out, by rw [HNx.out]; exact HP2.out, hb2⟩
                  case measure => simp [intOf]; omega
                · have hd4 : (((x15.toNat % 2 : Nat) : Int) == 1) = false := by rw [show x15.toNat % 2 = 0 by omega]; rfl
                  have hd5 : ((x15.toNat : Int) % 2 == 1) = false := by simp; omega
                  have P2 := HP1.out
                  rw [HE0.out v HTop.out (by rw [HX15.out]; exact hodd)] at P2
                  have HP2 := Lib.hid P2
                  clear P2 HE e0
                  generalize ((v.getD 0 0).toNat : Int) = y0 at *
                  go_wp2_with fail
                  go_roundw
                  case rel => exact ⟨n + 1, by omega, by go_num, HR1.out, by rw [HNx.out]; exact HP2.out, hb1⟩
                  case measure => simp [intOf]; omega
    · have hd : decide ((n : Int) < 128) = false := by simp; omega
      obtain rfl : n = 128 := by omega
      go_wp2_with fail
      go_ret
      exact ⟨⟨O, rfl, hOw, HO.out⟩, hb⟩
end

section
open Go.RowKit Go.Sort
set_option maxRecDepth 100000
set_option linter.unusedSimpArgs false
set_option linter.unusedVariables false

/-- Sixteen bytes of a text. -/
def partB (bl : List UInt8) (k : Nat) : List UInt8 := (bl.drop (16 * k)).take 16
theorem partB_length (bl : List UInt8) (k : Nat) (h : 16 * k + 16 ≤ bl.length) : (partB bl k).length = 16 := by rw [partB, List.length_take, List.length_drop]; omega
theorem partB_at (bl : List UInt8) (k i : Nat) (hi : i < 16) : (partB bl k).getD i 0 = bl.getD (16 * k + i) 0 := by
  rw [partB, List.getD_eq_getElem?_getD, List.getElem?_take, if_pos hi, List.getElem?_drop, ← List.getD_eq_getElem?_getD]
theorem hG_succ (key bl : List UInt8) (k : Nat) : prodG (plS (hG key bl k) (partB bl k)) key = hG key bl (k + 1) := rfl

set_option maxHeartbeats 4000000 in
theorem rhash_any (key blocks : ByteArray) (w : World) (hk : key.size = 16) (hb : blocks.size % 16 = 0) (hs : blocks.size ≤ 1099511627776) :
    Calls Tryz.prog 74 #[.string key, .string blocks] w fun e w' => e = .returned (.string ⟨(hashG key.data.toList blocks.data.toList).toArray⟩) ∧ Below w.heap.size w w' := by
  obtain ⟨i0, hi, hz0, hz1, hz2⟩ := info_parts info_u8
  have hmk : ∀ W : World, (Instr.makeSlice 46 (.int .i64 16) (.int .i64 16)).run Tryz.prog W = .ok (.slice (some ⟨W.heap.size, 0, none⟩) 16 16) (W.alloc (.cells (bcells (hG key.data.toList blocks.data.toList 0)) 5)) := fun W => by
    have h := run_makeSlice W 46 5 i0 (.int .u8 0) Tryz.underlying46 hi hz0 .i64 .i64 16 16 (by omega) (by omega) (by rw [hz1]; omega) (by rw [hz2]; omega) (by omega)
    rw [hz1, made_zero] at h
    exact h
  have HO0 := Lib.hid (blk_new w (.cells (bcells (hG key.data.toList blocks.data.toList 0)) 5))
  have hb0 := below_new w (.cells (bcells (hG key.data.toList blocks.data.toList 0)) 5)
  have HKL := Lib.hid (show key.data.toList.length = 16 from by rw [← Lib.size_eq]; exact hk)
  have HBL := Lib.hid (show blocks.data.toList.length = blocks.size from (Lib.size_eq _).symm)
  have HKZ := Lib.hid hk
  clear hi hz0 hz1 hz2 hk
  generalize hkl : key.data.toList = kl at *
  generalize hbl : blocks.data.toList = bl at *
  have HKE := Lib.hid hkl; have HBE := Lib.hid hbl
  have HIx := Lib.hid (fun (j : Nat) (h : j < blocks.size) (V : World) => index_text blocks j h V)
  rw [hbl] at HIx
  clear hkl hbl
  go_enter Tryz.func74, Tryz.ntmps74
  go_wp2_with fail
  clear hmk
  generalize (w.alloc _) = W0 at *
  go_loopw [5, 6, 7] (fun yv av _ wr => ∃ (k c G : Nat), k ≤ blocks.size / 16 ∧ Hid (c = 16 * k) ∧ av = .int .i64 (c : Int) ∧ yv = .slice (some ⟨G, 0, none⟩) 16 16 ∧ w.heap.size ≤ G ∧ wr.heap[G]? = some (.cells (bcells (hG kl bl k)) 5) ∧ Below w.heap.size w wr) (fun _ av _ _ => blocks.size + 16 - (intOf av).toNat)
  case atStart => exact ⟨0, 0, w.heap.size, by omega, Lib.hid rfl, rfl, rfl, by omega, HO0.out, hb0⟩
  case round =>
    clear HO0 hb0
    obtain ⟨k, c, G, hk, HC, rfl, rfl, hGw, ho, hbw⟩ := hrel
    have HO := Lib.hid ho
    clear ho
    by_cases hlt : c < blocks.size
    · have hd : decide ((c : Int) < (blocks.size : Int)) = true := by simp; omega
      have hck := HC.out
      have hk1 : k + 1 ≤ blocks.size / 16 := by omega
      have hcb : c + 16 ≤ blocks.size := by omega
      have HPL := Lib.hid (partB_length bl k (by rw [HBL.out]; omega))
      have hy16 := hG_length kl bl k
      clear hck
      go_wp2_with fail
      have hb' := hbw
      go_loopw [7] (fun iv wr => ∃ i : Nat, i ≤ 16 ∧ iv = .int .i64 (i : Int) ∧ wr.heap[G]? = some (.cells (bcells (plP (hG kl bl k) (partB bl k) i)) 5) ∧ Below w.heap.size w wr) (fun iv _ => 16 - (intOf iv).toNat)
      case atStart => exact ⟨0, by omega, rfl, by rw [plP_zero _ _ hy16]; exact HO.out, hb'⟩
      case round =>
        clear HO hb' hbw
        obtain ⟨i, hi, rfl, ho, hb⟩ := hrel
        have HO := Lib.hid ho
        clear ho
        by_cases hli : i < 16
        · have hd2 : decide ((i : Int) < 16) = true := by simp; omega
          have HL := Lib.hid (plP_length (hG kl bl k) (partB bl k) i)
          have cx := bcell_at HO.out i (by rw [HL.out]; exact hli)
          have ix := HIx.out (c + i) (by omega)
          have HPa := Lib.hid (show (partB bl k).getD i 0 = bl.getD (c + i) 0 from by rw [partB_at _ _ _ hli, HC.out])
          have HX := Lib.hid (au8x ((plP (hG kl bl k) (partB bl k) i).getD i 0) (bl.getD (c + i) 0))
          have HSet := Lib.hid (fun (Y : World) (hY : Y.heap[G]? = some (.cells (bcells (plP (hG kl bl k) (partB bl k) i)) 5)) => bheap_set hY i ((plP (hG kl bl k) (partB bl k) i).getD i 0 ^^^ bl.getD (c + i) 0))
          rw [← HPa.out, plP_succ _ _ i hli, HPa.out] at HSet
          clear HPa
          have e1 : IntKind.i64.wrap ((c : Int) + (i : Int)) = (c : Int) + (i : Int) := IntWalk.i64_in _ (by omega)
          have e2 : (((c + i : Nat) : Int)) = (c : Int) + (i : Int) := by omega
          rw [e2] at ix
          clear e2
          generalize (plP (hG kl bl k) (partB bl k) i).getD i 0 = x at *
          generalize bl.getD (c + i) 0 = y at *
          go_wp2_with fail
          have q1 := cell_regrown cx
          refine wp_region_reads_tail 13 (by kernel_rfl) (by kernel_rfl) ?_
          simp only [List.take_succ_cons, List.take_zero, List.drop_succ_cons, List.drop_zero]
          repeat (first | go_big_quiet_step (fail) | quiet_step (fail))
          refine wpQuiet_nil ?_
          intro Y hY
          have hlO := blk_lt HO.out
          have HO2 := Lib.hid (blk_below hY hlO HO.out)
          have hb2 : Below w.heap.size w Y := hb.trans (hY.mono hb.size)
          have cy := bcell_at HO2.out i (by rw [HL.out]; exact hli)
          have fy := frozen_of_row Y G i _ _ HO2.out
          clear hY q1 cx HO hb hlO
          rw [HX.out]
          go_wp2_with fail
          go_roundw
          case rel => exact ⟨i + 1, by omega, by go_num, HSet.out Y HO2.out, hb2.setCell (by simpa using hGw) _⟩
          case measure => simp [intOf]; omega
        · have hd2 : decide ((i : Int) < 16) = false := by simp; omega
          obtain rfl : i = 16 := by omega
          have HO2 := Lib.hid (show wr.heap[G]? = some (.cells (bcells (plS (hG kl bl k) (partB bl k))) 5) from by rw [← plP_full]; exact HO.out)
          clear HO
          obtain ⟨cap, hcv, hown, hbo⟩ := run_convert_string_bytes_at key wr
          rw [HKZ.out] at hcv
          rw [HKE.out] at hown
          have HO3 := Lib.hid (blk_below hbo (blk_lt HO2.out) HO2.out)
          have hb2 := hb.trans (hbo.mono hb.size)
          have HBk := Lib.hid (show BytesAt (Lib.bytesWorld wr 5 key) wr.heap.size 16 kl from fun j hj => ownS_at hown j (by rw [HKL.out]; exact hj))
          have HBy := Lib.hid (show BytesAt (Lib.bytesWorld wr 5 key) G 16 (plS (hG kl bl k) (partB bl k)) from fun j hj => bcell_at HO3.out j (by rw [plS_length]; exact hj))
          have HTm := Lib.hid (rtimes_any (plS (hG kl bl k) (partB bl k)) kl G 16 wr.heap.size cap _ (plS_length _ _) HKL.out HBy.out HBk.out)
          rw [hG_succ] at HTm
          clear hown hbo HO2 HBk HBy HO3 hb
          generalize wr.heap.size = K at *
          generalize Lib.bytesWorld wr 5 key = W3 at *
          go_wp2_with fail
          refine HTm.out.mono ?_
          rintro e W4 ⟨⟨G2, rfl, hG2, hr2⟩, hb4⟩
          have HR2 := Lib.hid hr2
          have hb5 := hb2.trans (hb4.mono hb2.size)
          have hsz := hb2.size
          clear hr2 hb4 HTm hcv
          go_wp2_with fail
          go_roundw
          case rel => exact ⟨k + 1, c + 16, G2, hk1, Lib.hid (by rw [HC.out]; omega), by go_num, rfl, by omega, HR2.out, hb5⟩
          case measure => simp [intOf]; omega
    · have hd : decide ((c : Int) < (blocks.size : Int)) = false := by simp; omega
      have hkk : k = blocks.size / 16 := by have := HC.out; omega
      have hrow : hG kl bl k = hashG kl bl := by rw [hashG, HBL.out, hkk]
      have ho := HO.out
      rw [hrow] at ho
      have hl := hashG_length kl bl
      have hcv := run_string_row wr G 16 _ (cells_of_bcells ho)
      rw [hl] at hcv
      clear HO ho hl hrow hkk
      generalize hq : hashG kl bl = row at *
      have HQ := Lib.hid hq
      clear hq
      go_wp2_with fail
      go_ret
      exact ⟨by first | (rw [HQ.out]; rfl) | (rw [HKE.out, HBE.out, HQ.out]; rfl), hbw⟩

end

section
open Go.RowKit Go.Sort
set_option maxRecDepth 100000
set_option linter.unusedSimpArgs false
set_option linter.unusedVariables false

theorem grun_string_nil (w : World) : (convert 46 9 (.slice none 0 0)).run Tryz.prog w = .ok (.string ⟨#[]⟩) w := by
  rw [run_convert_bytes_string w 46 9 5 _ _ _ Tryz.underlying46 Tryz.underlying5 Tryz.underlying9]
  rfl
/-- The string of a slice of the call's own. -/
theorem run_string_own {W : World} {base n cap : Nat} {ao : Option Addr} {l : List UInt8} (h : Own W base (.slice ao n cap) (Lib.byteCells l)) (hl : l.length = n) : (convert 46 9 (.slice ao n cap)).run Tryz.prog W = .ok (.string ⟨l.toArray⟩) W := by
  rcases h with ⟨h1, h2⟩ | ⟨g, c, hv, ho⟩
  · cases h1
    have : l = [] := by cases l with
      | nil => rfl
      | cons a r => simp [Lib.byteCells] at h2
    subst this
    exact grun_string_nil W
  · injection hv with h1 _ h3
    subst h1 h3
    exact run_string_at W g 0 cap n l hl (fun j x hx => by
      rw [Nat.zero_add]
      exact ho.cells j _ (by simp [Lib.byteCells, hx]))
/-- A sheet of a key by value. -/
def sheetV (K kc S sc : Nat) : Value := .agg (sheetC K kc S sc)
theorem sizeSheet (K kc S sc : Nat) : (Tryz.prog.info? 74).map (·.size) = some (sheetC K kc S sc).size := (zero_of_info infoSheet).2
/-- The block of the key's stream that the byte i lies in. -/
def stB (key nonce : List UInt8) (i : Nat) : List UInt8 := if i = 0 then [] else enL key (ctG nonce (2 + (i - 1) / 16))
theorem stB_now (key nonce : List UInt8) (i : Nat) : enL key (ctG nonce (2 + i / 16)) = stB key nonce (i + 1) := rfl
theorem stB_keep (key nonce : List UInt8) (i : Nat) (h : i % 16 ≠ 0) : stB key nonce i = stB key nonce (i + 1) := by
  rw [stB, if_neg (by omega), stB, if_neg (by omega), show (i - 1) / 16 = (i + 1 - 1) / 16 by omega]
theorem stB_size (key nonce : List UInt8) (i : Nat) : (⟨(stB key nonce (i + 1)).toArray⟩ : ByteArray).size = 16 := enL_length _ _
theorem stB_at (key nonce data : List UInt8) (i : Nat) : data.getD i 0 ^^^ (stB key nonce (i + 1)).getD (i % 16) 0 = strF key nonce data i := rfl

set_option maxHeartbeats 4000000 in
theorem rstream_any (key : List UInt8) (nonce data : ByteArray) (K kc S : Nat) (w : World) (hk : key.length = 16) (hn : nonce.size = 12) (hs : data.size ≤ 1000000) (hK : KeysAt w K key) (hT : TabB w S) :
    Calls Tryz.prog 49 #[.agg (sheetC K kc S 256), .string nonce, .string data] w fun e w' => e = .returned (.string ⟨(strG key nonce.data.toList data.data.toList).toArray⟩) ∧ Below w.heap.size w w' := by
  obtain ⟨i0, hi, hz0, hz1, hz2⟩ := info_parts info_u8
  have hbX := below_new w (.cells (sheetC K kc S 256) 74)
  have HX0 := Lib.hid (blk_new w (.cells (sheetC K kc S 256) 74))
  have HK := Lib.hid hK; have HT := Lib.hid hT
  have hKl := hK.lt; have hTl := hT.lt
  have HIS := Lib.hid (sizeSheet K kc S 256)
  have HU := Lib.hid (fun (b : ByteArray) (W : World) (hb : b.size = 16) (h1 : KeysAt W K key) (h2 : TabB W S) => under_any key b K kc S 256 W hk hb h1 h2)
  have HCt := Lib.hid (fun (m : Nat) (hm : m < 1073741824) W => counter_any nonce m W hm hn)
  have hnl : nonce.data.toList.length = 12 := by rw [← Lib.size_eq]; exact hn
  have HNL := Lib.hid hnl
  have HDL := Lib.hid (show data.data.toList.length = data.size from (Lib.size_eq _).symm)
  have HIx := Lib.hid (fun (j : Nat) (h : j < data.size) (V : World) => index_text data j h V)
  clear hK hT hnl hn hk
  go_enter Tryz.func49, Tryz.ntmps49
  go_wp2_with fail
  generalize hnn : nonce.data.toList = nl at *
  generalize hdd : data.data.toList = dl at *
  have HNE := Lib.hid hnn; have HDE := Lib.hid hdd
  clear hnn hdd
  generalize (w.alloc _) = W0 at *
  obtain ⟨B, hBB⟩ : ∃ B, B = w.heap.size := ⟨_, rfl⟩
  have HBB := Lib.hid hBB
  have hszB : B ≤ W0.heap.size := by have := hbX.size; omega
  rw [← hBB] at hbX HX0
  have hKl' : K < B := by omega
  have hTl' : S < B := by omega
  rw [← hBB]
  clear hBB hKl hTl
  go_loopw [7, 8, 9] (fun ov sv iv wr => ∃ (i : Nat) (ao : Option Addr) (cp : Nat), i ≤ data.size ∧ iv = .int .i64 (i : Int) ∧ sv = .string ⟨(stB key nl i).toArray⟩ ∧ ov = .slice ao i cp ∧ Own wr (B + 1) (.slice ao i cp) (Lib.byteCells (genL (strF key nl dl) i)) ∧ wr.heap[B]? = some (.cells (sheetC K kc S 256) 74) ∧ Below B w wr ∧ B + 1 ≤ wr.heap.size) (fun _ _ iv _ => data.size - (intOf iv).toNat)
  case atStart => exact ⟨0, none, 0, by omega, rfl, rfl, rfl, Own.nil _ _, HX0.out, hbX, by have := blk_lt HX0.out; omega⟩
  case round =>
    clear HX0 hbX hszB
    obtain ⟨i, ao, cp, hil, rfl, rfl, rfl, hown, hx, hb, hsz⟩ := hrel
    have HO := Lib.hid hown; have HX := Lib.hid hx
    have HL := Lib.hid (bcs_length _ _ (genL_length (strF key nl dl) i))
    clear hown hx
    by_cases hlt : i < data.size
    · have hd : decide ((i : Int) < (data.size : Int)) = true := by simp; omega
      by_cases h16 : i % 16 = 0
      · have hd2 : ((i : Int) % 16 == 0) = true := by simp; omega
        have hd3 : ((i : Int).tmod 16 == 0) = true := by rw [Int.tmod_eq_emod_of_nonneg (by omega)]; exact hd2
        have e1 : (i : Int) / 16 = ((i / 16 : Nat) : Int) := by omega
        have e2 : (i : Int).tdiv 16 = ((i / 16 : Nat) : Int) := by rw [Int.tdiv_eq_ediv_of_nonneg (by omega)]; omega
        have e3 : IntKind.i64.wrap (2 + ((i / 16 : Nat) : Int)) = ((2 + i / 16 : Nat) : Int) := by rw [IntWalk.i64_in _ (by omega)]; omega
        have e4 : 2 + ((i / 16 : Nat) : Int) = ((2 + i / 16 : Nat) : Int) := by omega
        have HC2 := Lib.hid (fun W => HCt.out (2 + i / 16) (by omega) W)
        have HKr := Lib.hid (HK.out.below hb hKl'); have HTr := Lib.hid (HT.out.below hb hTl')
        have HU2 := Lib.hid (fun (W : World) (h1 : KeysAt W K key) (h2 : TabB W S) => HU.out ⟨(ctG nl (2 + i / 16)).toArray⟩ W (ctG_length nl _ HNL.out) h1 h2)
        go_wp2_with fail
        refine wp_region_fresh 7 39 [.val (.agg (sheetC K kc S 256)) [(3, .pointer (some ⟨B, 0, none⟩))], .val (.string nonce) [(1, .string nonce)], .val (.int .i64 (i : Int)) [(9, .int .i64 (i : Int))],
          .val (.int .i64 ((i / 16 : Nat) : Int)) [(21, .int .i64 (i : Int))], .val (.int .i64 ((2 + i / 16 : Nat) : Int)) [(22, .int .i64 ((i / 16 : Nat) : Int))], .val (.string ⟨(ctG nl (2 + i / 16)).toArray⟩) [(20, .string nonce), (23, .int .i64 ((2 + i / 16 : Nat) : Int))],
          .val (.string ⟨(enL key (ctG nl (2 + i / 16))).toArray⟩) [(19, .agg (sheetC K kc S 256)), (24, .string ⟨(ctG nl (2 + i / 16)).toArray⟩)]]
          (by kernel_rfl) (by kernel_rfl) rfl ?_ ?_ ?_
        · simp only [List.take_succ_cons, List.take_zero, headObl, specObl, HeadSpec.val, HeadSpec.fresh, and_true]
          refine ⟨?_, ?_, ?_, ?_, ?_, ?_, ?_⟩
          · intro a w hb h
            have e0 := h (3, .pointer (some ⟨B, 0, none⟩)) (by simp)
            exact sQuiet_load_row 74 (.tmp 3) rfl B e0 74 _ (0, 0) _ (blk_below hb (blk_lt HX.out) HX.out) Tryz.underlying74 rfl HIS.out
          · intro a w hb h
            have e := h (1, .string nonce) (by simp)
            simp only [Array.getD_eq_getD_getElem?] at e
            simp [go_sem, e, sQuiet]
          · intro a w hb h
            have e := h (9, .int .i64 (i : Int)) (by simp)
            simp only [Array.getD_eq_getD_getElem?] at e
            simp [go_sem, e, sQuiet]
          · intro a w hb h
            have e := h (21, .int .i64 (i : Int)) (by simp)
            simp only [Array.getD_eq_getD_getElem?] at e
            have ew : IntKind.i64.wrap ((i / 16 : Nat) : Int) = ((i / 16 : Nat) : Int) := IntWalk.i64_in _ (by omega)
            simp [go_sem, e, sQuiet]
            exact IntWalk.i64_in _ (by omega)
          · intro a w hb h
            have e := h (22, .int .i64 ((i / 16 : Nat) : Int)) (by simp)
            simp only [Array.getD_eq_getD_getElem?] at e
            simp [go_sem, e, sQuiet]
            first | done | omega | exact e3 | exact e4
          · intro a w hb h
            have e0 := h (20, .string nonce) (by simp)
            have e1 := h (23, .int .i64 ((2 + i / 16 : Nat) : Int)) (by simp)
            simp only [Array.getD_eq_getD_getElem?] at e0 e1
            have hc := HC2.out w
            rw [show ((2 + i / 16 : Nat) : Int) = 2 + (i : Int) / 16 from by omega] at hc
            simp [go_sem, e0, e1, sQuiet]
            exact hc
          · intro a w hb h
            have e0 := h (19, .agg (sheetC K kc S 256)) (by simp)
            have e1 := h (24, .string ⟨(ctG nl (2 + i / 16)).toArray⟩) (by simp)
            simp only [Array.getD_eq_getD_getElem?] at e0 e1
            simp [go_sem, e0, e1, sQuiet]
            exact HU2.out w (HKr.out.below hb (by omega)) (HTr.out.below hb (by omega))
        · simp [headReads, headPut, specV, HeadSpec.val, HeadSpec.fresh, Act.put]
        · simp only [List.take_succ_cons, List.take_zero, List.drop_succ_cons, List.drop_zero, headEnd, HeadSpec.val, HeadSpec.fresh, Act.put, List.setIfInBounds_toArray, List.set_cons_succ, List.set_cons_zero]
          intro w1 hb1 hgs
          have hlx := blk_lt HX.out
          have HX1 := Lib.hid (blk_below hb1 hlx HX.out)
          have HO1 := Lib.hid (HO.out.below hb1)
          have hb1' : Below B w w1 := hb.trans (hb1.mono (by omega))
          have hsz1 := Nat.le_trans hsz hb1.size
          clear HX HO hb hsz hb1 hgs hlx HU2 HC2 HKr HTr e1 e2 e3 e4
          have HX := HX1; have HO := HO1; have hb := hb1'; have hsz := hsz1
          clear HX1 HO1 hb1' hsz1 h16 hd2 hd3
          rw [stB_now]
          have hst := stB_size key nl i
          have ix := HIx.out i hlt
          have iy := index_text ⟨(stB key nl (i + 1)).toArray⟩ (i % 16) (by rw [hst]; exact Nat.mod_lt _ (by omega))
          have HXx := Lib.hid (au8x (dl.getD i 0) ((stB key nl (i + 1)).getD (i % 16) 0))
          rw [stB_at] at HXx
          have HN := Lib.hid (show Lib.byteCells (genL (strF key nl dl) i) ++ [.int .u8 ((strF key nl dl i).toNat : Int)] = Lib.byteCells (genL (strF key nl dl) (i + 1)) from by rw [bcs_snoc, genL_succ])
          have f2 : (i : Int) % 16 = ((i % 16 : Nat) : Int) := by omega
          have f4 : (i : Int).tmod 16 = ((i % 16 : Nat) : Int) := by rw [Int.tmod_eq_emod_of_nonneg (by omega)]; omega
          have HRV := Lib.hid (show (⟨(stB key nl (i + 1)).toArray⟩ : ByteArray).data.toList = stB key nl (i + 1) from rfl)
          rw [HRV.out] at iy
          have f5 : i % 16 < 16 := Nat.mod_lt _ (by omega)
          have f6 : ((i % 16 : Nat) : Int) < 16 := by omega
          generalize (stB key nl (i + 1)).getD (i % 16) 0 = y at *
          generalize dl.getD i 0 = x at *
          generalize hsb : (⟨(stB key nl (i + 1)).toArray⟩ : ByteArray) = sb1 at *
          have HSB := Lib.hid hsb
          clear hsb
          generalize i % 16 = r at *
          generalize Lib.byteCells (genL (strF key nl dl) i) = cu at *
          go_wp2_with fail
          refine wp_region_moves_tail 9 _ rfl rfl rfl (by kernel_rfl) (by kernel_rfl) (fun _ _ _ _ h => h) ?_
          simp only [Nat.reduceSub, List.take_succ_cons, List.take_zero, List.drop_succ_cons, List.drop_zero]
          dsimp only [Act.put, Act.eval]
          repeat (first | go_big_quiet_step (fail) | quiet_step (fail))
          refine wpQuiet_nil ?_
          intro W4 hb4
          have HO4 := Lib.hid (HO.out.below hb4)
          have hlx := blk_lt HX.out
          have HX4 := Lib.hid (blk_below hb4 hlx HX.out)
          have hb4' : Below B w W4 := hb.trans (hb4.mono (by omega))
          have hsz4 := Nat.le_trans hsz hb4.size
          clear HO hb hb4 hlx HX
          rw [HXx.out]
          have hb40 := below_new W4 (.cells #[.int .u8 ((strF key nl dl i).toNat : Int)] 5)
          have HX40 := Lib.hid (blk_old (o := .cells #[.int .u8 ((strF key nl dl i).toNat : Int)] 5) HX4.out)
          have hbB : Below (B + 1) W4 W4 := Below.refl _ _
          clear hb40
          go_wp2_with (at_builtin; refine wpList_append_sl rfl (.tmp 26) (.tmp 35) 46 rfl (B + 1) 5 i0 (.int .u8 0) 1 Tryz.underlying46 hi hz0 hz1 hz2 rfl ao i cp _ rfl (HO4.out.alloc _) HL.out ⟨W4.heap.size, 0, none⟩ 1 1 [.int .u8 _] rfl rfl (cell_one_new _ _ _) ?b2 ?b3 ?b4 ?b5 ?_)
          case b2 => intro u hu; simp at hu; subst hu; rfl
          case b3 => omega
          case b4 => omega
          case b5 => simp; omega
          intro ao5 cp5 W5 hown5 hgrow5
          have hb5 : Below (B + 1) W4 W5 := below_append (hbB.alloc hsz4 _) (by simp; omega) (HO4.out.alloc _) hgrow5
          have hsz5 : B + 1 ≤ W5.heap.size := by have := hgrow5.size; simp at this; omega
          have HX5 := Lib.hid (blk_below hb5 (by omega) HX4.out)
          have hb6 : Below B w W5 := hb4'.trans (hb5.mono (by omega))
          rw [HN.out] at hown5
          clear hgrow5 HO4 hbB hsz4 hb4' hb5
          go_wp2_with fail
          go_roundw
          case rel => exact ⟨i + 1, ao5, cp5, by omega, by go_num, by rw [HSB.out], rfl, hown5, HX5.out, hb6, hsz5⟩
          case measure => simp [intOf]; omega
      · have hd2 : ((i : Int) % 16 == 0) = false := by simp; omega
        have hd3 : ((i : Int).tmod 16 == 0) = false := by rw [Int.tmod_eq_emod_of_nonneg (by omega)]; exact hd2
        rw [stB_keep key nl i h16]
        have H16 := Lib.hid h16
        clear h16
        have hst := stB_size key nl i
        have ix := HIx.out i hlt
        have iy := index_text ⟨(stB key nl (i + 1)).toArray⟩ (i % 16) (by rw [hst]; exact Nat.mod_lt _ (by omega))
        have HXx := Lib.hid (au8x (dl.getD i 0) ((stB key nl (i + 1)).getD (i % 16) 0))
        rw [stB_at] at HXx
        have HN := Lib.hid (show Lib.byteCells (genL (strF key nl dl) i) ++ [.int .u8 ((strF key nl dl i).toNat : Int)] = Lib.byteCells (genL (strF key nl dl) (i + 1)) from by rw [bcs_snoc, genL_succ])
        have f2 : (i : Int) % 16 = ((i % 16 : Nat) : Int) := by omega
        have f4 : (i : Int).tmod 16 = ((i % 16 : Nat) : Int) := by rw [Int.tmod_eq_emod_of_nonneg (by omega)]; omega
        have HRV := Lib.hid (show (⟨(stB key nl (i + 1)).toArray⟩ : ByteArray).data.toList = stB key nl (i + 1) from rfl)
        rw [HRV.out] at iy
        have f5 : i % 16 < 16 := Nat.mod_lt _ (by omega)
        have f6 : ((i % 16 : Nat) : Int) < 16 := by omega
        generalize (stB key nl (i + 1)).getD (i % 16) 0 = y at *
        generalize dl.getD i 0 = x at *
        generalize hsb : (⟨(stB key nl (i + 1)).toArray⟩ : ByteArray) = sb1 at *
        have HSB := Lib.hid hsb
        clear hsb
        generalize i % 16 = r at *
        generalize Lib.byteCells (genL (strF key nl dl) i) = cu at *
        go_wp2_with fail
        refine wp_region_moves_tail 9 _ rfl rfl rfl (by kernel_rfl) (by kernel_rfl) (fun _ _ _ _ h => h) ?_
        simp only [Nat.reduceSub, List.take_succ_cons, List.take_zero, List.drop_succ_cons, List.drop_zero]
        dsimp only [Act.put, Act.eval]
        repeat (first | go_big_quiet_step (fail) | quiet_step (fail))
        refine wpQuiet_nil ?_
        intro W4 hb4
        have HO4 := Lib.hid (HO.out.below hb4)
        have hlx := blk_lt HX.out
        have HX4 := Lib.hid (blk_below hb4 hlx HX.out)
        have hb4' : Below B w W4 := hb.trans (hb4.mono (by omega))
        have hsz4 := Nat.le_trans hsz hb4.size
        clear HO hb hb4 hlx HX
        rw [HXx.out]
        have hb40 := below_new W4 (.cells #[.int .u8 ((strF key nl dl i).toNat : Int)] 5)
        have HX40 := Lib.hid (blk_old (o := .cells #[.int .u8 ((strF key nl dl i).toNat : Int)] 5) HX4.out)
        have hbB : Below (B + 1) W4 W4 := Below.refl _ _
        clear hb40
        go_wp2_with (at_builtin; refine wpList_append_sl rfl (.tmp 26) (.tmp 35) 46 rfl (B + 1) 5 i0 (.int .u8 0) 1 Tryz.underlying46 hi hz0 hz1 hz2 rfl ao i cp _ rfl (HO4.out.alloc _) HL.out ⟨W4.heap.size, 0, none⟩ 1 1 [.int .u8 _] rfl rfl (cell_one_new _ _ _) ?b2 ?b3 ?b4 ?b5 ?_)
        case b2 => intro u hu; simp at hu; subst hu; rfl
        case b3 => omega
        case b4 => omega
        case b5 => simp; omega
        intro ao5 cp5 W5 hown5 hgrow5
        have hb5 : Below (B + 1) W4 W5 := below_append (hbB.alloc hsz4 _) (by simp; omega) (HO4.out.alloc _) hgrow5
        have hsz5 : B + 1 ≤ W5.heap.size := by have := hgrow5.size; simp at this; omega
        have HX5 := Lib.hid (blk_below hb5 (by omega) HX4.out)
        have hb6 : Below B w W5 := hb4'.trans (hb5.mono (by omega))
        rw [HN.out] at hown5
        clear hgrow5 HO4 hbB hsz4 hb4' hb5
        go_wp2_with fail
        go_roundw
        case rel => exact ⟨i + 1, ao5, cp5, by omega, by go_num, by rw [HSB.out], rfl, hown5, HX5.out, hb6, hsz5⟩
        case measure => simp [intOf]; omega
    · have hd : decide ((i : Int) < (data.size : Int)) = false := by simp; omega
      obtain rfl : i = data.size := by omega
      have hrow : genL (strF key nl dl) data.size = strG key nl dl := by rw [strG, HDL.out]; rfl
      have hsl := strG_length key nl dl
      rw [HDL.out] at hsl
      have ho := HO.out
      rw [hrow] at ho
      clear HO hrow
      generalize hq : strG key nl dl = row at *
      have HQ := Lib.hid hq
      clear hq
      have hcv := run_string_own ho hsl
      clear ho hsl
      go_wp2_with fail
      go_ret
      exact ⟨by rw [HNE.out, HDE.out, HQ.out]; rfl, by rw [← HBB.out]; exact hb⟩
end

section
open Go.RowKit Go.Sort
set_option maxRecDepth 100000
set_option linter.unusedSimpArgs false
set_option linter.unusedVariables false

theorem padG_size (s : ByteArray) : (⟨(padG s.data.toList).toArray⟩ : ByteArray).size = (s.size + 15) / 16 * 16 := by
  show (padG s.data.toList).length = _
  rw [padG_length, ← Lib.size_eq]

set_option maxHeartbeats 4000000 in
theorem rtag_any (key : List UInt8) (nonce beside sealed : ByteArray) (K kc S : Nat) (w : World) (hk : key.length = 16) (hn : nonce.size = 12) (h1 : beside.size ≤ 1100000) (h2 : sealed.size ≤ 1100000) (hK : KeysAt w K key) (hT : TabB w S) :
    Calls Tryz.prog 50 #[.agg (sheetC K kc S 256), .string nonce, .string beside, .string sealed] w fun e w' => e = .returned (.string ⟨(tagG key nonce.data.toList beside.data.toList sealed.data.toList).toArray⟩) ∧ Below w.heap.size w w' := by
  obtain ⟨i0, hi, hz0, hz1, hz2⟩ := info_parts info_u8
  have hmk : ∀ W : World, (Instr.makeSlice 46 (.int .i64 16) (.int .i64 16)).run Tryz.prog W = .ok (.slice (some ⟨W.heap.size, 0, none⟩) 16 16) (W.alloc (.cells (bcells zeroB) 5)) := fun W => by
    have h := run_makeSlice W 46 5 i0 (.int .u8 0) Tryz.underlying46 hi hz0 .i64 .i64 16 16 (by omega) (by omega) (by rw [hz1]; omega) (by rw [hz2]; omega) (by omega)
    rw [hz1, made_zero] at h
    exact h
  have hbX := below_new w (.cells (sheetC K kc S 256) 74)
  have HX0 := Lib.hid (blk_new w (.cells (sheetC K kc S 256) 74))
  have HK := Lib.hid hK; have HT := Lib.hid hT
  have hKl := hK.lt; have hTl := hT.lt
  have HIS := Lib.hid (sizeSheet K kc S 256)
  have hnl : nonce.data.toList.length = 12 := by rw [← Lib.size_eq]; exact hn
  have HU := Lib.hid (fun (b : List UInt8) (W : World) (hb : b.length = 16) (h1 : KeysAt W K key) (h2 : TabB W S) => under_any key ⟨b.toArray⟩ K kc S 256 W hk hb h1 h2)
  have HCt := Lib.hid (fun W => counter_any nonce 1 W (by omega) hn)
  have HCL := Lib.hid (ctG_length nonce.data.toList 1 hnl)
  have HTG : Hid (plS (hashG (enL key zeroB) (tagD beside.data.toList sealed.data.toList)) (enL key (ctG nonce.data.toList 1)) = tagG key nonce.data.toList beside.data.toList sealed.data.toList) := Lib.hid rfl
  have hHk := enL_length key zeroB
  have hEk := enL_length key (ctG nonce.data.toList 1)
  have hhl := hashG_length (enL key zeroB) (tagD beside.data.toList sealed.data.toList)
  have p1 := padG_size beside; have p2 := padG_size sealed
  have p3 : (⟨(longG beside.size).toArray⟩ : ByteArray).size = 8 := longG_length _
  have p4 : (⟨(longG sealed.size).toArray⟩ : ByteArray).size = 8 := longG_length _
  have HF1 := Lib.hid (fun W => filled_any beside W (by omega))
  have HF2 := Lib.hid (fun W => filled_any sealed W (by omega))
  have HL1 := Lib.hid (fun W => long_any beside.size W (by omega))
  have HL2 := Lib.hid (fun W => long_any sealed.size W (by omega))
  have HCat := Lib.hid (show ((((⟨(padG beside.data.toList).toArray⟩ : ByteArray) ++ (⟨(padG sealed.data.toList).toArray⟩ : ByteArray)) ++ (⟨(longG beside.size).toArray⟩ : ByteArray)) ++ (⟨(longG sealed.size).toArray⟩ : ByteArray)).data.toList = tagD beside.data.toList sealed.data.toList from by
    rw [append_bytes, append_bytes, append_bytes, tagD, ← Lib.size_eq, ← Lib.size_eq])
  have HHs := Lib.hid (fun W => rhash_any ⟨(enL key zeroB).toArray⟩ ((((⟨(padG beside.data.toList).toArray⟩ : ByteArray) ++ (⟨(padG sealed.data.toList).toArray⟩ : ByteArray)) ++ (⟨(longG beside.size).toArray⟩ : ByteArray)) ++ (⟨(longG sealed.size).toArray⟩ : ByteArray)) W hHk (by simp only [ByteArray.size_append, p1, p2, p3, p4]; omega) (by simp only [ByteArray.size_append, p1, p2, p3, p4]; omega))
  rw [HCat.out] at HHs
  have HHs2 : Hid (∀ W, Calls Tryz.prog 74 #[.string ⟨(enL key zeroB).toArray⟩, .string ((((⟨(padG beside.data.toList).toArray⟩ : ByteArray) ++ (⟨(padG sealed.data.toList).toArray⟩ : ByteArray)) ++ (⟨(longG beside.size).toArray⟩ : ByteArray)) ++ (⟨(longG sealed.size).toArray⟩ : ByteArray))] W fun e w' => e = .returned (.string ⟨(hashG (enL key zeroB) (tagD beside.data.toList sealed.data.toList)).toArray⟩) ∧ Below W.heap.size W w') := HHs
  have HU0 := Lib.hid (fun (W : World) (h1 : KeysAt W K key) (h2 : TabB W S) => HU.out zeroB W List.length_replicate h1 h2)
  have HU1 := Lib.hid (fun (W : World) (h1 : KeysAt W K key) (h2 : TabB W S) => HU.out (ctG nonce.data.toList 1) W HCL.out h1 h2)
  clear HCat HHs hK hT hnl hn hk HU
  generalize (⟨(padG beside.data.toList).toArray⟩ : ByteArray) = s1 at *
  generalize (⟨(padG sealed.data.toList).toArray⟩ : ByteArray) = s2 at *
  generalize (⟨(longG beside.size).toArray⟩ : ByteArray) = s3 at *
  generalize (⟨(longG sealed.size).toArray⟩ : ByteArray) = s4 at *
  have hz1' : (s1.size : Int) + (s2.size : Int) ≤ 9223372036854775807 := by omega
  have hz2' : ((s1 ++ s2).size : Int) + (s3.size : Int) ≤ 9223372036854775807 := by rw [ByteArray.size_append]; omega
  have hz3' : ((s1 ++ s2 ++ s3).size : Int) + (s4.size : Int) ≤ 9223372036854775807 := by rw [ByteArray.size_append, ByteArray.size_append]; omega
  generalize hct : ctG nonce.data.toList 1 = ct at *
  generalize hashG (enL key zeroB) (tagD beside.data.toList sealed.data.toList) = hh at *
  generalize henk : enL key zeroB = hkey at *
  generalize henc : enL key ct = eb at *
  have HEK := Lib.hid henk; have HEC := Lib.hid henc
  have HZZ := Lib.hid (show (⟨zeroB.toArray⟩ : ByteArray).data.toList = zeroB from rfl)
  have HCC := Lib.hid (show (⟨ct.toArray⟩ : ByteArray).data.toList = ct from rfl)
  try rw [HZZ.out, henk] at HU0
  try rw [HCC.out, henc] at HU1
  clear henk henc hct
  go_enter Tryz.func50, Tryz.ntmps50
  go_wp2_with fail
  generalize (w.alloc (.cells (sheetC K kc S 256) 74)) = W0 at *
  have hszX := hbX.size
  refine wp_region_made 4 53 [.val (.agg (sheetC K kc S 256)) [(4, .pointer (some ⟨w.heap.size, 0, none⟩))], .new (.cells (bcells zeroB) 5) (mkS 16 16) [],
    .from (.string ⟨zeroB.toArray⟩) [] [(1, 15, .cells (bcells zeroB) 5, mkS 16 16)], .val (.string ⟨hkey.toArray⟩) [(14, .agg (sheetC K kc S 256)), (16, .string ⟨zeroB.toArray⟩)]]
    (by kernel_rfl) (by kernel_rfl) (by kernel_rfl) rfl ?_ ?_ ?_ ?_
  · simp [madeMk, MadeSpec.val, MadeSpec.from, MadeSpec.new]
  · simp only [List.take_succ_cons, List.take_zero, madeObl, madeSpecObl, MadeSpec.val, MadeSpec.from, MadeSpec.new, and_true]
    refine ⟨?_, ?_, ?_, ?_⟩
    · intro a w1 hb h _
      have e0 := h (4, .pointer (some ⟨w.heap.size, 0, none⟩)) (by simp)
      exact sQuiet_load_row 74 (.tmp 4) rfl w.heap.size e0 74 _ (0, 0) _ (blk_below hb (blk_lt HX0.out) HX0.out) Tryz.underlying74 rfl HIS.out
    · refine ⟨fun g => rfl, ?_⟩
      intro a w1 hb h
      simp [go_sem, hmk, mkS]
    · intro a w1 hb h hm
      obtain ⟨g, e1, hgo⟩ := hm _ (List.mem_singleton.2 rfl)
      simp only [Array.getD_eq_getD_getElem?] at e1
      have hcs := run_string_row w1 g 16 zeroB (cells_of_bcells hgo)
      rw [show zeroB.length = 16 from List.length_replicate] at hcs
      simp [go_sem, e1, sQuiet, mkS, hcs]
    · intro a w1 hb h _
      have e0 := h (14, .agg (sheetC K kc S 256)) (by simp)
      have e1 := h (16, .string ⟨zeroB.toArray⟩) (by simp)
      simp only [Array.getD_eq_getD_getElem?] at e0 e1
      simp [go_sem, e0, e1, sQuiet]
      have hbw := hbX.trans (hb.mono hszX)
      exact HU0.out w1 (HK.out.below hbw hKl) (HT.out.below hbw hTl)
  · simp [madeReads, headPut, madeV, MadeSpec.val, MadeSpec.from, MadeSpec.new, Act.put]
  · simp only [List.take_succ_cons, List.take_zero, List.drop_succ_cons, List.drop_zero, madeEnd, MadeSpec.val, MadeSpec.from, MadeSpec.new, Act.put, List.setIfInBounds_toArray, List.set_cons_succ, List.set_cons_zero]
    intro g15 hg15 _ W1 hb1 hgs
    have HX1 := Lib.hid (blk_below hb1 (blk_lt HX0.out) HX0.out)
    have hb2 : Below w.heap.size w W1 := hbX.trans (hb1.mono hszX)
    clear hgs hb1 HX0 hbX hmk HU0 hg15
    simp only [mkS]
    go_wp2_with fail
    refine (HF1.out W1).mono ?_
    rintro e W ⟨rfl, rfl⟩
    go_wp2_with fail
    refine (HF2.out W1).mono ?_
    rintro e W ⟨rfl, rfl⟩
    go_wp2_with fail
    refine (HL1.out W1).mono ?_
    rintro e W2 ⟨rfl, hb3⟩
    have HX2 := Lib.hid (blk_below hb3 (blk_lt HX1.out) HX1.out)
    have hb4 := hb2.trans (hb3.mono hb2.size)
    clear hb3 HX1 hb2
    go_wp2_with fail
    refine (HL2.out W2).mono ?_
    rintro e W3 ⟨rfl, hb3⟩
    have HX3 := Lib.hid (blk_below hb3 (blk_lt HX2.out) HX2.out)
    have hb5 := hb4.trans (hb3.mono hb4.size)
    clear hb3 HX2 hb4
    go_wp2_with fail
    refine (HHs2.out W3).mono ?_
    rintro e W4 ⟨rfl, hb3⟩
    have HX4 := Lib.hid (blk_below hb3 (blk_lt HX3.out) HX3.out)
    have hb6 := hb5.trans (hb3.mono hb5.size)
    clear hb3 HX3 hb5 HHs2 HL1 HL2 HF1 HF2
    go_wp2_with fail
    have hsz6 := hb6.size
    refine wp_region_fresh 4 53 [.val (.agg (sheetC K kc S 256)) [(4, .pointer (some ⟨w.heap.size, 0, none⟩))], .val (.string nonce) [(1, .string nonce)], .val (.string ⟨ct.toArray⟩) [(34, .string nonce)],
      .val (.string ⟨eb.toArray⟩) [(33, .agg (sheetC K kc S 256)), (35, .string ⟨ct.toArray⟩)]]
      (by kernel_rfl) (by kernel_rfl) rfl ?_ ?_ ?_
    · simp only [List.take_succ_cons, List.take_zero, headObl, specObl, HeadSpec.val, HeadSpec.fresh, and_true]
      refine ⟨?_, ?_, ?_, ?_⟩
      · intro a w1 hb h
        have e0 := h (4, .pointer (some ⟨w.heap.size, 0, none⟩)) (by simp)
        exact sQuiet_load_row 74 (.tmp 4) rfl w.heap.size e0 74 _ (0, 0) _ (blk_below hb (blk_lt HX4.out) HX4.out) Tryz.underlying74 rfl HIS.out
      · intro a w1 hb h
        have e := h (1, .string nonce) (by simp)
        simp only [Array.getD_eq_getD_getElem?] at e
        simp [go_sem, e, sQuiet]
      · intro a w1 hb h
        have e := h (34, .string nonce) (by simp)
        simp only [Array.getD_eq_getD_getElem?] at e
        simp [go_sem, e, sQuiet]
        exact HCt.out w1
      · intro a w1 hb h
        have e0 := h (33, .agg (sheetC K kc S 256)) (by simp)
        have e1 := h (35, .string ⟨ct.toArray⟩) (by simp)
        simp only [Array.getD_eq_getD_getElem?] at e0 e1
        simp [go_sem, e0, e1, sQuiet]
        have hbw := hb6.trans (hb.mono hsz6)
        exact HU1.out w1 (HK.out.below hbw hKl) (HT.out.below hbw hTl)
    · simp [headReads, headPut, specV, HeadSpec.val, HeadSpec.fresh, Act.put]
    · simp only [List.take_succ_cons, List.take_zero, List.drop_succ_cons, List.drop_zero, headEnd, HeadSpec.val, HeadSpec.fresh, Act.put, List.setIfInBounds_toArray, List.set_cons_succ, List.set_cons_zero]
      intro W5 hb7 hgs
      have hb8 : Below w.heap.size w W5 := hb6.trans (hb7.mono hsz6)
      have hsz8 := hb8.size
      clear hgs hb7 hb6 HX4 HU1 HCt hsz6
      go_wp2_with fail
      obtain ⟨B, hB⟩ : ∃ B, B = w.heap.size := ⟨_, rfl⟩
      have HBB := Lib.hid hB
      rw [← hB] at hb8 hsz8
      clear hB hKl hTl hszX
      have HIa := Lib.hid (fun (j : Nat) (h : j < 16) (V : World) => index_text ⟨hh.toArray⟩ j (by show j < hh.length; rw [hhl]; exact h) V)
      have HIb := Lib.hid (fun (j : Nat) (h : j < 16) (V : World) => index_text ⟨eb.toArray⟩ j (by show j < eb.length; rw [hEk]; exact h) V)
      have q16 : (⟨hh.toArray⟩ : ByteArray).size = 16 := hhl
      have r16 : (⟨eb.toArray⟩ : ByteArray).size = 16 := hEk
      have HGen := Lib.hid (show genL (fun i => hh.getD i 0 ^^^ eb.getD i 0) 16 = tagG key nonce.data.toList beside.data.toList sealed.data.toList from by rw [← HTG.out]; rfl)
      generalize hha : (⟨hh.toArray⟩ : ByteArray) = ha at *
      generalize heb : (⟨eb.toArray⟩ : ByteArray) = ea at *
      have HHA := Lib.hid (show ha.data.toList = hh from by rw [← hha])
      have HEA := Lib.hid (show ea.data.toList = eb from by rw [← heb])
      rw [HHA.out] at HIa; rw [HEA.out] at HIb
      clear hha heb
      go_loopw [12, 13] (fun v i wr => ∃ (k : Nat) (ao : Option Addr) (cp : Nat), k ≤ 16 ∧ i = .int .i64 (k : Int) ∧ v = .slice ao k cp ∧ Own wr B (.slice ao k cp) (Lib.byteCells (genL (fun i => hh.getD i 0 ^^^ eb.getD i 0) k)) ∧ Below B w wr ∧ B ≤ wr.heap.size) (fun _ i _ => 16 - (intOf i).toNat)
      case atStart => exact ⟨0, none, 0, by omega, rfl, rfl, Own.nil _ _, hb8, hsz8⟩
      case round =>
        clear hb8 hsz8
        obtain ⟨k, ao, cp, hk, rfl, rfl, hown, hb, hsz⟩ := hrel
        have HO := Lib.hid hown
        have HL := Lib.hid (bcs_length _ _ (genL_length (fun i => hh.getD i 0 ^^^ eb.getD i 0) k))
        clear hown
        by_cases hlt : k < 16
        · have hd : decide ((k : Int) < 16) = true := by simp; omega
          have HN := Lib.hid (show Lib.byteCells (genL (fun i => hh.getD i 0 ^^^ eb.getD i 0) k) ++ [.int .u8 ((hh.getD k 0 ^^^ eb.getD k 0).toNat : Int)] = Lib.byteCells (genL (fun i => hh.getD i 0 ^^^ eb.getD i 0) (k + 1)) from by rw [bcs_snoc, genL_succ])
          have ix := HIa.out k hlt
          have iy := HIb.out k hlt
          have HX := Lib.hid (au8x (hh.getD k 0) (eb.getD k 0))
          generalize Lib.byteCells (genL (fun i => hh.getD i 0 ^^^ eb.getD i 0) k) = cu at *
          generalize hh.getD k 0 = x at *
          generalize eb.getD k 0 = y at *
          go_wp2_with fail
          refine wp_region_moves_tail 8 _ rfl rfl rfl (by kernel_rfl) (by kernel_rfl) (fun _ _ _ _ h => h) ?_
          simp only [Nat.reduceSub, List.take_succ_cons, List.take_zero, List.drop_succ_cons, List.drop_zero]
          dsimp only [Act.put, Act.eval]
          repeat (first | go_big_quiet_step (fail) | quiet_step (fail))
          refine wpQuiet_nil ?_
          intro W4 hb4
          have HO4 := Lib.hid (HO.out.below hb4)
          have hbB : Below B w W4 := hb.trans (hb4.mono hsz)
          have hsz4 := Nat.le_trans hsz hb4.size
          clear HO hb hb4
          go_wp2_with (at_builtin; refine wpList_append_sl rfl (.tmp 41) (.tmp 49) 46 rfl B 5 i0 (.int .u8 0) 1 Tryz.underlying46 hi hz0 hz1 hz2 rfl ao k cp _ rfl (HO4.out.alloc _) HL.out ⟨W4.heap.size, 0, none⟩ 1 1 [.int .u8 _] rfl rfl (cell_one_new _ _ _) ?b2 ?b3 ?b4 ?b5 ?_)
          case b2 => intro u hu; simp at hu; subst hu; rfl
          case b3 => omega
          case b4 => omega
          case b5 => simp; omega
          intro ao5 cp5 W5 hown5 hgrow5
          have hb5 : Below B w W5 := below_append (hbB.alloc hsz4 _) (by simp; omega) (HO4.out.alloc _) hgrow5
          have hsz5 : B ≤ W5.heap.size := by have := hgrow5.size; simp at this; omega
          rw [HX.out, HN.out] at hown5
          clear hgrow5 HO4 hbB hsz4
          go_wp2_with fail
          go_roundw
          case rel => exact ⟨k + 1, ao5, cp5, by omega, by go_num, rfl, hown5, hb5, hsz5⟩
          case measure => simp [intOf]; omega
        · have hd : decide ((k : Int) < 16) = false := by simp; omega
          obtain rfl : k = 16 := by omega
          have ho := HO.out
          rw [HGen.out] at ho
          have hcv := run_string_own ho (tagG_length _ _ _ _)
          clear ho HO HGen
          generalize hq : tagG key nonce.data.toList beside.data.toList sealed.data.toList = tg at *
          have HQ := Lib.hid hq
          clear hq
          go_wp2_with fail
          go_ret
          exact ⟨by first | (rw [HQ.out]; rfl) | rfl, by rw [← HBB.out]; exact hb⟩
end

section
open Go.RowKit Go.Sort
set_option maxRecDepth 100000
set_option linter.unusedSimpArgs false
set_option linter.unusedVariables false

def sheet0 : Array Value := #[.slice none 0 0, .slice none 0 0]
theorem sheet0_size (K kc S sc : Nat) : sheet0.size = (sheetC K kc S sc).size := rfl
theorem sheet_one (K kc S sc : Nat) : (sheetC K kc S sc).all (·.oneCell') = true := by simp [sheetC, Value.oneCell']
theorem infoSheet0 : (Tryz.prog.info? 74).map (fun i => (i.zero, i.size)) = some (some (.agg sheet0), 2) := by kernel_rfl

set_option maxHeartbeats 1000000 in
theorem rSealKey_any (key nonce beside plain : ByteArray) (w : World) (hk : key.size ≠ 16 ∨ nonce.size ≠ 12) :
    Calls Tryz.prog 35 #[.string key, .string nonce, .string beside, .string plain] w fun e w' => e = .returned (.tuple #[.string ⟨#[]⟩, .int .i64 21]) ∧ w = w' := by
  by_cases h1 : key.size = 16
  · have d1 : ((key.size : Int) != 16) = false := by simp; omega
    have d2 : ((nonce.size : Int) != 12) = true := by simp; omega
    go_enter Tryz.func35, Tryz.ntmps35
    go_wp2_with fail
    go_ret2
    exact ⟨rfl, rfl⟩
  · have d1 : ((key.size : Int) != 16) = true := by simp; omega
    go_enter Tryz.func35, Tryz.ntmps35
    go_wp2_with fail
    go_ret2
    exact ⟨rfl, rfl⟩

set_option maxHeartbeats 2000000 in
theorem rSeal_any (key nonce beside plain : ByteArray) (w : World) (hk : key.size = 16) (hn : nonce.size = 12) (h1 : beside.size ≤ 20000) (h2 : plain.size ≤ 20000) :
    Calls Tryz.prog 35 #[.string key, .string nonce, .string beside, .string plain] w fun e w' => e = .returned (.tuple #[.string ⟨(sealG key.data.toList nonce.data.toList beside.data.toList plain.data.toList).toArray⟩, .int .i64 0]) ∧ Below w.heap.size w w' := by
  obtain ⟨hz, hi⟩ := zero_of_info infoSheet0
  have d1 : ((key.size : Int) != 16) = false := by simp; omega
  have d2 : ((nonce.size : Int) != 12) = false := by simp; omega
  have d3 : decide ((1048576 : Int) < (beside.size : Int)) = false := by simp; omega
  have d4 : decide ((1048576 : Int) < (plain.size : Int)) = false := by simp; omega
  have hkl : key.data.toList.length = 16 := by rw [← Lib.size_eq]; exact hk
  have HRd := Lib.hid (ready_any key w hk)
  have HSt := Lib.hid (fun K kc S W h1 h2 => rstream_any key.data.toList nonce plain K kc S W hkl hn (by omega) h1 h2)
  have hsl := strG_length key.data.toList nonce.data.toList plain.data.toList
  rw [← Lib.size_eq] at hsl
  obtain ⟨hid, hhid⟩ : ∃ s : ByteArray, s = ⟨(strG key.data.toList nonce.data.toList plain.data.toList).toArray⟩ := ⟨_, rfl⟩
  have hhs : hid.size = plain.size := by rw [hhid]; exact hsl
  have HTg := Lib.hid (fun K kc S W h3 h4 => rtag_any key.data.toList nonce beside hid K kc S W hkl hn (by omega) (by omega) h3 h4)
  have HS : Hid (hid ++ ⟨(tagG key.data.toList nonce.data.toList beside.data.toList hid.data.toList).toArray⟩ = (⟨(sealG key.data.toList nonce.data.toList beside.data.toList plain.data.toList).toArray⟩ : ByteArray)) := Lib.hid (by rw [append_bytes2, hhid]; rfl)
  have htl : (⟨(tagG key.data.toList nonce.data.toList beside.data.toList hid.data.toList).toArray⟩ : ByteArray).size = 16 := tagG_length _ _ _ _
  rw [← hhid] at HSt
  clear hhid hsl hi hkl
  generalize (⟨(tagG key.data.toList nonce.data.toList beside.data.toList hid.data.toList).toArray⟩ : ByteArray) = tg at *
  generalize key.data.toList = kl at *
  have hsz : (hid.size : Int) + (tg.size : Int) ≤ 9223372036854775807 := by omega
  go_enter Tryz.func35, Tryz.ntmps35
  go_wp2_with fail
  refine HRd.out.mono ?_
  rintro e W1 ⟨⟨K, kc, S, rfl, hKA, hTB⟩, hb1⟩
  have HG := Lib.hid (blk_new W1 (.cells sheet0 74))
  have HG2 := Lib.hid (setRow_heap _ W1.heap.size _ (sheetC K kc S 256) _ _ HG.out)
  have hbr : Below W1.heap.size W1 ((W1.alloc (.cells sheet0 74)).setRow W1.heap.size (sheetC K kc S 256)) := below_setRow (below_new W1 _) (Nat.le_refl _) _
  have HK := Lib.hid (hKA.below hbr hKA.lt); have HT := Lib.hid (hTB.below hbr hTB.lt)
  have hb2 := hb1.trans (hbr.mono hb1.size)
  have HIs := Lib.hid (sizeSheet K kc S 256)
  have HOs := Lib.hid (sheet0_size K kc S 256)
  have H1s := Lib.hid (sheet_one K kc S 256)
  have hKl := hKA.lt; have hTl := hTB.lt
  have hG1 : W1.heap.size < ((W1.alloc (.cells sheet0 74)).setRow W1.heap.size (sheetC K kc S 256)).heap.size := blk_lt HG2.out
  clear hKA hTB hb1 hbr HRd
  have hsz1 := hb2.size
  have HS2 := Lib.hid (HSt.out K kc S _ HK.out HT.out)
  clear HSt
  go_wp2_with (first
    | (with_reducible refine wpList_load_row rfl 74 _ rfl W1.heap.size rfl 74 _ (0, 0) _ HG2.out Tryz.underlying74 rfl HIs.out ?_)
    | (with_reducible refine wpList_store_row rfl 74 _ _ rfl W1.heap.size (sheetC K kc S 256) rfl rfl 74 _ HG.out HIs.out HOs.out H1s.out ?_))
  clear HG
  generalize World.setRow (World.alloc W1 _) _ _ = W2 at *
  refine HS2.out.mono ?_
  rintro e W3 ⟨rfl, hb3⟩
  have HG3 := Lib.hid (blk_below hb3 hG1 HG2.out)
  have HK3 := Lib.hid (HK.out.below hb3 (by omega))
  have HT3 := Lib.hid (HT.out.below hb3 (by omega))
  have hb4 := hb2.trans (hb3.mono hb2.size)
  have HT4 := Lib.hid (HTg.out K kc S W3 HK3.out HT3.out)
  clear HG2 HK HT hb3 hb2 HS2 HK3 HT3 HTg
  go_wp2_with (with_reducible refine wpList_load_row rfl 74 _ rfl W1.heap.size rfl 74 _ (0, 0) _ HG3.out Tryz.underlying74 rfl HIs.out ?_)
  refine HT4.out.mono ?_
  rintro e W4 ⟨rfl, hb5⟩
  go_wp2_with fail
  go_ret2
  exact ⟨by rw [← HS.out]; rfl, hb4.trans (hb5.mono hb4.size)⟩

set_option maxHeartbeats 1000000 in
theorem rOpenKey_any (key nonce beside sealed : ByteArray) (w : World) (hk : key.size ≠ 16 ∨ nonce.size ≠ 12) :
    Calls Tryz.prog 47 #[.string key, .string nonce, .string beside, .string sealed] w fun e w' => e = .returned (.tuple #[.string ⟨#[]⟩, .int .i64 21]) ∧ w = w' := by
  by_cases h1 : key.size = 16
  · have d1 : ((key.size : Int) != 16) = false := by simp; omega
    have d2 : ((nonce.size : Int) != 12) = true := by simp; omega
    go_enter Tryz.func47, Tryz.ntmps47
    go_wp2_with fail
    go_ret2
    exact ⟨rfl, rfl⟩
  · have d1 : ((key.size : Int) != 16) = true := by simp; omega
    go_enter Tryz.func47, Tryz.ntmps47
    go_wp2_with fail
    go_ret2
    exact ⟨rfl, rfl⟩
set_option maxHeartbeats 1000000 in
theorem rOpenShort_any (key nonce beside sealed : ByteArray) (w : World) (hk : key.size = 16) (hn : nonce.size = 12) (hs : sealed.size < 16) :
    Calls Tryz.prog 47 #[.string key, .string nonce, .string beside, .string sealed] w fun e w' => e = .returned (.tuple #[.string ⟨#[]⟩, .int .i64 20]) ∧ w = w' := by
  have d1 : ((key.size : Int) != 16) = false := by simp; omega
  have d2 : ((nonce.size : Int) != 12) = false := by simp; omega
  have d3 : decide ((sealed.size : Int) < 16) = true := by simp; omega
  go_enter Tryz.func47, Tryz.ntmps47
  go_wp2_with fail
  go_ret2
  exact ⟨rfl, rfl⟩

set_option maxHeartbeats 2000000 in
theorem rOpen_any (key nonce beside sealed : ByteArray) (w : World) (hk : key.size = 16) (hn : nonce.size = 12) (h1 : beside.size ≤ 20000) (h2 : sealed.size ≤ 20000) (hs : 16 ≤ sealed.size) :
    Calls Tryz.prog 47 #[.string key, .string nonce, .string beside, .string sealed] w fun e w' => e = .returned (if tagOk key.data.toList nonce.data.toList beside.data.toList sealed.data.toList then .tuple #[.string ⟨(openG key.data.toList nonce.data.toList beside.data.toList sealed.data.toList).toArray⟩, .int .i64 0] else .tuple #[.string ⟨#[]⟩, .int .i64 20]) ∧ Below w.heap.size w w' := by
  obtain ⟨hz, hi⟩ := zero_of_info infoSheet0
  have d1 : ((key.size : Int) != 16) = false := by simp; omega
  have d2 : ((nonce.size : Int) != 12) = false := by simp; omega
  have d3 : decide ((sealed.size : Int) < 16) = false := by simp; omega
  have d4 : decide ((1048576 : Int) < (beside.size : Int)) = false := by simp; omega
  have d5 : decide ((1048592 : Int) < (sealed.size : Int)) = false := by simp; omega
  obtain ⟨n, hnn⟩ : ∃ n, n = sealed.size - 16 := ⟨_, rfl⟩
  have e1 : IntKind.i64.wrap ((sealed.size : Int) - 16) = (sealed.size : Int) - 16 := IntWalk.i64_in _ (by omega)
  have e2 : (sealed.size : Int) - 16 = (n : Int) := by omega
  have e3 : (n : Int) ≤ (sealed.size : Int) := by omega
  have hkl : key.data.toList.length = 16 := by rw [← Lib.size_eq]; exact hk
  have ht1 : (sealed.extract 0 n).data.toList = sealed.data.toList.take (sealed.data.toList.length - 16) := by rw [Lib.extract_data, List.drop_zero, ← Lib.size_eq, hnn]; rfl
  have ht2 : (sealed.extract n sealed.size).data.toList = sealed.data.toList.drop (sealed.data.toList.length - 16) := by rw [Lib.extract_data, List.take_of_length_le (by rw [List.length_drop, ← Lib.size_eq]; exact Nat.le_refl _), ← Lib.size_eq, hnn]
  have hs1 : (sealed.extract 0 n).size = n := by rw [ByteArray.size_extract]; omega
  have HRd := Lib.hid (ready_any key w hk)
  have HTg := Lib.hid (fun K kc S W h3 h4 => rtag_any key.data.toList nonce beside (sealed.extract 0 n) K kc S W hkl hn (by omega) (by omega) h3 h4)
  have HX := Lib.hid (fun K kc S W h1 h2 => rstream_any key.data.toList nonce (sealed.extract 0 n) K kc S W hkl hn (by omega) h1 h2)
  have hok0 : ((⟨(tagG key.data.toList nonce.data.toList beside.data.toList (sealed.extract 0 n).data.toList).toArray⟩ : ByteArray).toList == (sealed.extract n sealed.size).toList) = tagOk key.data.toList nonce.data.toList beside.data.toList sealed.data.toList := by
    rw [Lib.toList_data, Lib.toList_data, ht2, ht1]; rfl
  have HOp : Hid ((⟨(strG key.data.toList nonce.data.toList (sealed.extract 0 n).data.toList).toArray⟩ : ByteArray) = ⟨(openG key.data.toList nonce.data.toList beside.data.toList sealed.data.toList).toArray⟩) := Lib.hid (by rw [ht1]; rfl)
  rw [HOp.out] at HX
  clear HOp ht1 ht2 hs1 hnn hi hkl
  generalize (⟨(tagG key.data.toList nonce.data.toList beside.data.toList (sealed.extract 0 n).data.toList).toArray⟩ : ByteArray) = tg at *
  generalize hok : tagOk key.data.toList nonce.data.toList beside.data.toList sealed.data.toList = ok at *
  generalize (⟨(openG key.data.toList nonce.data.toList beside.data.toList sealed.data.toList).toArray⟩ : ByteArray) = op at *
  generalize key.data.toList = kl at *
  go_enter Tryz.func47, Tryz.ntmps47
  go_wp2_with fail
  refine HRd.out.mono ?_
  rintro e W1 ⟨⟨K, kc, S, rfl, hKA, hTB⟩, hb1⟩
  have HG := Lib.hid (blk_new W1 (.cells sheet0 74))
  have HG2 := Lib.hid (setRow_heap _ W1.heap.size _ (sheetC K kc S 256) _ _ HG.out)
  have hbr : Below W1.heap.size W1 ((W1.alloc (.cells sheet0 74)).setRow W1.heap.size (sheetC K kc S 256)) := below_setRow (below_new W1 _) (Nat.le_refl _) _
  have HK := Lib.hid (hKA.below hbr hKA.lt); have HT := Lib.hid (hTB.below hbr hTB.lt)
  have hb2 := hb1.trans (hbr.mono hb1.size)
  have HIs := Lib.hid (sizeSheet K kc S 256)
  have HOs := Lib.hid (sheet0_size K kc S 256)
  have H1s := Lib.hid (sheet_one K kc S 256)
  have hKl := hKA.lt; have hTl := hTB.lt
  have hG1 : W1.heap.size < ((W1.alloc (.cells sheet0 74)).setRow W1.heap.size (sheetC K kc S 256)).heap.size := blk_lt HG2.out
  clear hKA hTB hb1 hbr HRd
  have hsz1 := hb2.size
  have HT2 := Lib.hid (fun (W : World) (h1 : KeysAt W K kl) (h2 : TabB W S) => HTg.out K kc S W h1 h2)
  clear HTg
  go_wp2_with (first
    | (with_reducible refine wpList_store_row rfl 74 _ _ rfl W1.heap.size (sheetC K kc S 256) rfl rfl 74 _ HG.out HIs.out HOs.out H1s.out ?_))
  clear HG
  generalize World.setRow (World.alloc W1 _) _ _ = W2 at *
  refine wp_region_reads (by kernel_rfl) (by kernel_rfl) ?_
  refine arr_quiet_load rfl 74 (.tmp 10) rfl ⟨W1.heap.size, 0, none⟩ rfl (sheetC K kc S 256) (arr_row_regrown 74 W1.heap.size 74 _ (0, 0) _ HG2.out Tryz.underlying74 rfl HIs.out) ?_
  simp only [Act.put, List.setIfInBounds_toArray, List.set_cons_succ, List.set_cons_zero]
  repeat (first | go_big_quiet_step (with_reducible exact Calls.regrown_of (HT2.out _ (HK.out.below (below_regrown _ _ _) (by omega)) (HT.out.below (below_regrown _ _ _) (by omega)))) | quiet_step (with_reducible exact Calls.regrown_of (HT2.out _ (HK.out.below (below_regrown _ _ _) (by omega)) (HT.out.below (below_regrown _ _ _) (by omega)))))
  refine wpQuiet_nil ?_
  intro W4 hb4
  have HG4 := Lib.hid (blk_below hb4 hG1 HG2.out)
  have HK4 := Lib.hid (HK.out.below hb4 (by omega))
  have HT4 := Lib.hid (HT.out.below hb4 (by omega))
  have hb5 := hb2.trans (hb4.mono hb2.size)
  have HX4 := Lib.hid (HX.out K kc S W4 HK4.out HT4.out)
  clear HG2 HK HT HT2 hb4 hb2 HK4 HT4 HX
  cases ok with
  | false =>
    go_wp2_with fail
    go_ret2
    exact ⟨rfl, hb5⟩
  | true =>
    go_wp2_with (with_reducible refine wpList_load_row rfl 74 _ rfl W1.heap.size rfl 74 _ (0, 0) _ HG4.out Tryz.underlying74 rfl HIs.out ?_)
    refine HX4.out.mono ?_
    rintro e W5 ⟨rfl, hb6⟩
    go_wp2_with fail
    go_ret2
    exact ⟨rfl, hb5.trans (hb6.mono hb5.size)⟩
end
end Go.Proofs.YtffnafikegakcaaGreatDoor
