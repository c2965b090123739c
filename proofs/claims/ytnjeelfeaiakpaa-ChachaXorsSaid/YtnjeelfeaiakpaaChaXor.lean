/- The reference's Xor: data with a key's stream; what Block and Xor refuse. -/
import Derived.Test.YtnjeelfeaiakpaaChaBlock
namespace Go.Proofs.Ytnjeelfeaiakpaa
open Go.RowKit Go.Sort
set_option maxRecDepth 100000
set_option linter.unusedSimpArgs false
set_option linter.unusedVariables false

theorem run_string_nil (w : World) : (convert 31 9 (.slice none 0 0)).run Try.prog w = .ok (.string ⟨#[]⟩) w := by
  rw [run_convert_bytes_string w 31 9 5 _ _ _ Try.underlying31 Try.underlying5 Try.underlying9]
  rfl
theorem refBlockKey_any (key nonce : ByteArray) (n : Int) (w : World) (h : key.size ≠ 32 ∨ nonce.size ≠ 12) :
    Calls Try.prog 8 #[.string key, .string nonce, .int .i64 n] w fun e w' => e = .returned (.tuple #[.string ⟨#[]⟩, .int .i64 21]) ∧ Below w.heap.size w w' := by
  by_cases hk : key.size = 32
  · have hd1 : ((key.size : Int) != 32) = false := by simp [hk]
    have hd2 : ((nonce.size : Int) != 12) = true := by
      have : nonce.size ≠ 12 := by omega
      simp; omega
    go_enter Try.func8, Try.ntmps8
    go_wp2_with fail
    go_ret2
    exact ⟨rfl, Below.refl _ _⟩
  · have hd1 : ((key.size : Int) != 32) = true := by simp; omega
    go_enter Try.func8, Try.ntmps8
    go_wp2_with fail
    go_ret2
    exact ⟨rfl, Below.refl _ _⟩
theorem refBlockArg_any (key nonce : ByteArray) (n : Int) (w : World) (hk : key.size = 32) (hn : nonce.size = 12) (h : n < 0 ∨ 4294967295 < n) :
    Calls Try.prog 8 #[.string key, .string nonce, .int .i64 n] w fun e w' => e = .returned (.tuple #[.string ⟨#[]⟩, .int .i64 1]) ∧ Below w.heap.size w w' := by
  have hd1 : ((key.size : Int) != 32) = false := by simp [hk]
  have hd2 : ((nonce.size : Int) != 12) = false := by simp [hn]
  clear hk hn
  by_cases hneg : n < 0
  · have hd3 : decide (n < 0) = true := by simp; omega
    go_enter Try.func8, Try.ntmps8
    go_wp2_with fail
    go_ret2
    exact ⟨rfl, Below.refl _ _⟩
  · have hd3 : decide (n < 0) = false := by simp; omega
    have hd4 : decide ((4294967295 : Int) < n) = true := by simp; omega
    go_enter Try.func8, Try.ntmps8
    go_wp2_with fail
    go_ret2
    exact ⟨rfl, Below.refl _ _⟩
theorem refXorErr_any (key nonce : ByteArray) (n q : Int) (data : ByteArray) (w : World) (hq : q ≠ 0) (h : ∀ W, Calls Try.prog 8 #[.string key, .string nonce, .int .i64 n] W fun e w' => e = .returned (.tuple #[.string ⟨#[]⟩, .int .i64 q]) ∧ Below W.heap.size W w') :
    Calls Try.prog 11 #[.string key, .string nonce, .int .i64 n, .string data] w fun e w' => e = .returned (.tuple #[.string ⟨#[]⟩, .int .i64 q]) ∧ Below w.heap.size w w' := by
  have hd : (q != 0) = true := by simpa using hq
  go_enter Try.func11, Try.ntmps11
  go_wp2_with fail
  refine (h w).mono ?_
  rintro e W1 ⟨rfl, hb1⟩
  go_wp2_with fail
  go_ret2
  exact ⟨rfl, hb1⟩
theorem refXorBig_any (key nonce : ByteArray) (n : Nat) (data : ByteArray) (w : World) (hk : key.size = 32) (hn : nonce.size = 12) (hnn : n ≤ 4294967295) (hs : data.size ≤ 1073741824) (h : 4294967296 < n + (data.size + 63) / 64) :
    Calls Try.prog 11 #[.string key, .string nonce, .int .i64 (n : Int), .string data] w fun e w' => e = .returned (.tuple #[.string ⟨#[]⟩, .int .i64 13]) ∧ Below w.heap.size w w' := by
  have hd : (4294967296 : Int) < (n : Int) + ((data.size : Int) + 63) / 64 := by omega
  have H1 := Lib.hid (refBlock_any key nonce n w hk hn hnn)
  clear hk hn
  go_enter Try.func11, Try.ntmps11
  go_wp2_with fail
  refine H1.out.mono ?_
  rintro e W1 ⟨rfl, hb1⟩
  go_wp2_with fail
  go_ret2
  exact ⟨rfl, hb1⟩
set_option maxHeartbeats 4000000 in
theorem refXor_any (key nonce : ByteArray) (n : Nat) (data : ByteArray) (w : World) (hk : key.size = 32) (hn : nonce.size = 12) (hnn : n ≤ 4294967295) (hs : data.size ≤ 1073741824) (h : n + (data.size + 63) / 64 ≤ 4294967296) :
    Calls Try.prog 11 #[.string key, .string nonce, .int .i64 (n : Int), .string data] w fun e w' => e = .returned (.tuple #[.string ⟨(chaX key.data.toList nonce.data.toList n data.data.toList data.size).toArray⟩, .int .i64 0]) ∧ Below w.heap.size w w' := by
  obtain ⟨i8, hi8, hy0, hy1, hy2⟩ := info_parts info_u8
  have hd : ¬ (4294967296 : Int) < (n : Int) + ((data.size : Int) + 63) / 64 := by omega
  have HB : Hid (∀ (m : Nat) (z : Int), z = (m : Int) → m ≤ 4294967295 → ∀ W, Calls Try.prog 8 #[.string key, .string nonce, .int .i64 z] W fun e w' => e = .returned (.tuple #[.string ⟨(chaB key.data.toList nonce.data.toList m).toArray⟩, .int .i64 0]) ∧ Below W.heap.size W w') := Lib.hid (fun m z hz hm W => by subst hz; exact refBlock_any key nonce m W hk hn hm)
  clear hk hn
  go_enter Try.func11, Try.ntmps11
  go_wp2_with fail
  refine (HB.out n n rfl hnn w).mono ?_
  rintro e W1 ⟨rfl, hb1⟩
  have hs1 := hb1.size
  generalize hBB : w.heap.size = B at *
  have HBB := Lib.hid hBB
  clear hBB
  generalize (⟨(chaB key.data.toList nonce.data.toList n).toArray⟩ : ByteArray) = s0
  go_wp2_with fail
  go_loopw [12, 13, 14] (fun ov sv iv wr => ∃ (i : Nat) (ao : Option Addr) (cp : Nat) (sb : ByteArray), i ≤ data.size ∧ iv = .int .i64 i ∧ ov = .slice ao i cp ∧ sv = .string sb ∧ (i % 64 ≠ 0 → sb.data.toList = chaB key.data.toList nonce.data.toList (n + i / 64)) ∧ Own wr B (.slice ao i cp) (Lib.byteCells (chaX key.data.toList nonce.data.toList n data.data.toList i)) ∧ Below B w wr ∧ B ≤ wr.heap.size) (fun _ _ iv _ => data.size - (intOf iv).toNat)
  case atStart => exact ⟨0, none, 0, ⟨#[]⟩, by omega, rfl, rfl, rfl, by simp, Own.nil _ _, hb1, hs1⟩
  case round =>
    clear hb1 hs1
    obtain ⟨i, ao, cp, sb, hin, rfl, rfl, rfl, hsb, hown, hb, hsz⟩ := hrel
    have HO := Lib.hid hown; have HSB := Lib.hid hsb
    have HL := Lib.hid (show (Lib.byteCells (chaX key.data.toList nonce.data.toList n data.data.toList i)).length = i from by rw [Lib.byteCells_length, chaX_length])
    clear hown hsb
    by_cases hlt : i < data.size
    · have hdi : (i : Int) < (data.size : Int) := by omega
      have HX0 : Hid (chaX key.data.toList nonce.data.toList n data.data.toList (i + 1) = chaX key.data.toList nonce.data.toList n data.data.toList i ++ [xorB ((((chaB key.data.toList nonce.data.toList (n + i / 64)).getD (i % 64) 0).toNat : Nat) : Int) (data.data.toList.getD i 0)]) := Lib.hid rfl
      rw [getD_byte data i hlt] at HX0
      have HCL := Lib.hid (chaB_length key.data.toList nonce.data.toList (n + i / 64))
      by_cases hz : i % 64 = 0
      · have hdz : ((i : Int) % 64 == 0) = true := by simp; omega
        have hm : n + i / 64 ≤ 4294967295 := by omega
        go_wp2_with fail
        refine (HB.out (n + i / 64) _ (by omega) hm wr).mono ?_
        rintro e W2 ⟨rfl, hb2⟩
        have hBw2 : Below B w W2 := hb.trans (hb2.mono hsz)
        have hsz2 := Nat.le_trans hsz hb2.size
        have HO2 := Lib.hid (HO.out.below hb2)
        have hsn : (⟨(chaB key.data.toList nonce.data.toList (n + i / 64)).toArray⟩ : ByteArray).data.toList = chaB key.data.toList nonce.data.toList (n + i / 64) := by simp
        generalize (⟨(chaB key.data.toList nonce.data.toList (n + i / 64)).toArray⟩ : ByteArray) = sn at *
        clear HO hb2 hb hsz
        have hss : sn.size = 64 := by rw [Lib.size_eq, hsn, HCL.out]
        have i1 := index_byte sn ((i : Int) % 64) (i % 64) (by omega) (by omega)
        have HXs := Lib.hid (show chaX key.data.toList nonce.data.toList n data.data.toList (i + 1) = chaX key.data.toList nonce.data.toList n data.data.toList i ++ [xorB ((sn[i % 64]'(by omega)).toNat : Int) data[i]] from by
          rw [HX0.out, ← hsn, getD_byte sn (i % 64) (by omega)])
        have HY := Lib.hid (xorB_toNat ((sn[i % 64]'(by omega)).toNat : Int) data[i])
        have HSN := Lib.hid hsn
        clear HX0 hsn HSB
        generalize ((sn[i % 64]'(by omega)).toNat : Int) = t at *
        have hss2 : sn.size ≤ 64 := by omega
        clear hss
        go_wp2_with fail
        refine wp_region_moves_tail 9 _ rfl rfl rfl (by kernel_rfl) (by kernel_rfl) (fun _ _ _ _ h => h) ?_
        simp only [Nat.reduceSub, List.take_succ_cons, List.take_zero, List.drop_succ_cons, List.drop_zero]
        dsimp only [Act.put, Act.eval]
        repeat (first | go_big_quiet_step (fail) | quiet_step (fail))
        refine wpQuiet_nil ?_
        intro W4 hb4
        have HO4 := Lib.hid (HO2.out.below hb4)
        have hbB : Below B w W4 := hBw2.trans (hb4.mono hsz2)
        have hsz4 := Nat.le_trans hsz2 hb4.size
        go_wp2_with (at_builtin; refine wpList_append_sl rfl (.tmp 51) (.tmp 60) 31 rfl B 5 i8 (.int .u8 0) 1 Try.underlying31 hi8 hy0 hy1 hy2 rfl ao i cp _ rfl (HO4.out.alloc _) HL.out ⟨W4.heap.size, 0, none⟩ 1 1 [.int .u8 (bits .xor .u8 (data[i].toNat : Int) t)] rfl rfl (cell_one_new _ _ _) ?ab2 ?ab3 ?ab4 ?ab5 ?_)
        case ab2 => intro u hu; simp at hu; subst hu; rfl
        case ab3 => omega
        case ab4 => omega
        case ab5 => simp; omega
        intro ao5 cp5 W5 hown5 hgrow5
        have hb5 : Below B w W5 := below_append (hbB.alloc hsz4 _) (by simp; omega) (HO4.out.alloc _) hgrow5
        have hsz5 : B ≤ W5.heap.size := by have := hgrow5.size; simp at this; omega
        have hown6 : Own W5 B (.slice ao5 (i + 1) cp5) (Lib.byteCells (chaX key.data.toList nonce.data.toList n data.data.toList (i + 1))) := by
          rw [HXs.out, Lib.byteCells_append]
          have e : Lib.byteCells [xorB t data[i]] = [.int .u8 (bits .xor .u8 (data[i].toNat : Int) t)] := by simp only [Lib.byteCells, List.map_cons, List.map_nil, HY.out]
          rw [e]; exact hown5
        clear hown5 hgrow5 HO4 hbB hb4 i1
        go_wp2_with fail
        go_roundw
        case rel => exact ⟨i + 1, ao5, cp5, sn, by omega, by go_num, rfl, rfl, fun hne => by rw [HSN.out]; congr 1; omega, hown6, hb5, hsz5⟩
        case measure => simp [intOf]; omega
      · have hdz : ((i : Int) % 64 == 0) = false := by simp; omega
        have hsb := HSB.out hz
        have hsn := hsb
        clear hsb
        have hss : sb.size = 64 := by rw [Lib.size_eq, hsn, HCL.out]
        have i1 := index_byte sb ((i : Int) % 64) (i % 64) (by omega) (by omega)
        have HXs := Lib.hid (show chaX key.data.toList nonce.data.toList n data.data.toList (i + 1) = chaX key.data.toList nonce.data.toList n data.data.toList i ++ [xorB ((sb[i % 64]'(by omega)).toNat : Int) data[i]] from by
          rw [HX0.out, ← hsn, getD_byte sb (i % 64) (by omega)])
        have HY := Lib.hid (xorB_toNat ((sb[i % 64]'(by omega)).toNat : Int) data[i])
        have HSN := Lib.hid hsn
        clear HX0 hsn HSB
        generalize ((sb[i % 64]'(by omega)).toNat : Int) = t at *
        have hss2 : sb.size ≤ 64 := by omega
        clear hss
        go_wp2_with fail
        refine wp_region_moves_tail 9 _ rfl rfl rfl (by kernel_rfl) (by kernel_rfl) (fun _ _ _ _ h => h) ?_
        simp only [Nat.reduceSub, List.take_succ_cons, List.take_zero, List.drop_succ_cons, List.drop_zero]
        dsimp only [Act.put, Act.eval]
        repeat (first | go_big_quiet_step (fail) | quiet_step (fail))
        refine wpQuiet_nil ?_
        intro W4 hb4
        have HO4 := Lib.hid (HO.out.below hb4)
        have hbB : Below B w W4 := hb.trans (hb4.mono hsz)
        have hsz4 := Nat.le_trans hsz hb4.size
        go_wp2_with (at_builtin; refine wpList_append_sl rfl (.tmp 51) (.tmp 60) 31 rfl B 5 i8 (.int .u8 0) 1 Try.underlying31 hi8 hy0 hy1 hy2 rfl ao i cp _ rfl (HO4.out.alloc _) HL.out ⟨W4.heap.size, 0, none⟩ 1 1 [.int .u8 (bits .xor .u8 (data[i].toNat : Int) t)] rfl rfl (cell_one_new _ _ _) ?cb2 ?cb3 ?cb4 ?cb5 ?_)
        case cb2 => intro u hu; simp at hu; subst hu; rfl
        case cb3 => omega
        case cb4 => omega
        case cb5 => simp; omega
        intro ao5 cp5 W5 hown5 hgrow5
        have hb5 : Below B w W5 := below_append (hbB.alloc hsz4 _) (by simp; omega) (HO4.out.alloc _) hgrow5
        have hsz5 : B ≤ W5.heap.size := by have := hgrow5.size; simp at this; omega
        have hown6 : Own W5 B (.slice ao5 (i + 1) cp5) (Lib.byteCells (chaX key.data.toList nonce.data.toList n data.data.toList (i + 1))) := by
          rw [HXs.out, Lib.byteCells_append]
          have e : Lib.byteCells [xorB t data[i]] = [.int .u8 (bits .xor .u8 (data[i].toNat : Int) t)] := by simp only [Lib.byteCells, List.map_cons, List.map_nil, HY.out]
          rw [e]; exact hown5
        clear hown5 hgrow5 HO4 hbB hb4 i1
        go_wp2_with fail
        go_roundw
        case rel => exact ⟨i + 1, ao5, cp5, sb, by omega, by go_num, rfl, rfl, fun hne => by rw [HSN.out]; congr 1; omega, hown6, hb5, hsz5⟩
        case measure => simp [intOf]; omega
    · have hdi : ¬ (i : Int) < (data.size : Int) := by omega
      obtain rfl : i = data.size := by omega
      have hcv : (convert 31 9 (.slice ao data.size cp)).run Try.prog wr = .ok (.string ⟨(chaX key.data.toList nonce.data.toList n data.data.toList data.size).toArray⟩) wr := by
        rcases HO.out with ⟨hv, hnil⟩ | ⟨g, cap, hv, hoO⟩
        · have h0 : data.size = 0 := by have := HL.out; rw [hnil] at this; simpa using this.symm
          simp only [Value.slice.injEq] at hv
          obtain ⟨rfl, _, rfl⟩ := hv
          have e0 : chaX key.data.toList nonce.data.toList n data.data.toList data.size = [] := by rw [h0]; rfl
          rw [e0, h0]
          exact run_string_nil wr
        · rw [HL.out] at hv
          simp only [Value.slice.injEq, true_and] at hv
          obtain ⟨rfl, rfl⟩ := hv
          have := run_string_row wr g cp (chaX key.data.toList nonce.data.toList n data.data.toList data.size) (fun j x hx => hoO.cells j _ (by simp [Lib.byteCells, hx]))
          rwa [chaX_length] at this
      clear HO HL HSB
      go_wp2_with fail
      go_ret2
      exact ⟨rfl, by rw [HBB.out]; exact hb⟩
end Go.Proofs.Ytnjeelfeaiakpaa
