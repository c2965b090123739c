/- The program's Block. -/
import Derived.Test.YtnjeelfeaiakpaaChaIni
import Derived.Test.YtnjeelfeaiakpaaChaBlock
namespace Go.Proofs.Ytnjeelfeaiakpaa
open Go.RowKit Go.Sort
set_option maxRecDepth 100000
set_option linter.unusedSimpArgs false
set_option linter.unusedVariables false

theorem ownBlockErr_any (key nonce : ByteArray) (n q : Int) (w : World) (hq : q ≠ 0) (h : ∀ W, Calls Try.prog 12 #[.string key, .string nonce, .int .i64 n] W fun e w' => e = .returned (.int .i64 q) ∧ W = w') :
    Calls Try.prog 7 #[.string key, .string nonce, .int .i64 n] w fun e w' => e = .returned (.tuple #[.string ⟨#[]⟩, .int .i64 q]) ∧ Below w.heap.size w w' := by
  have HC := Lib.hid h
  clear h
  have hd : (q != 0) = true := by simpa using hq
  go_enter Try.func7, Try.ntmps7
  go_wp2_with fail
  refine (HC.out _).mono ?_
  rintro e W1 ⟨rfl, rfl⟩
  go_wp2_with fail
  go_ret2
  exact ⟨rfl, Below.refl _ _⟩
theorem sliced_all (t : TypeId) (n a : Nat) (ht : Try.prog.underlying t = some (.array (Try.prog.arrayLen t) (Try.prog.elem t))) (hn : Try.prog.arrayLen t = n) (hs : (Try.prog.info? (Try.prog.elem t)).map (·.size) = some 1) (hp : 0 < n) (w : World) :
    (Instr.sliceAt t (.pointer (some ⟨a, 0, none⟩)) none none none).run Try.prog w = .ok (.slice (some ⟨a, 0, none⟩) n n) w := by
  rw [run_sliceAt_array_all w t ⟨a, 0, none⟩ ht]
  have hsz : ∀ w, (sizeOf (Try.prog.elem t)).run Try.prog w = .ok 1 w := fun w => by
    cases hq : Try.prog.info? (Try.prog.elem t) with
    | none => simp [hq] at hs
    | some i => simp [hq] at hs; simp [sizeOf, typeInfo, hq, hs]
  rw [hsz, hn]
  simp only [Result.andThen_ok, slicedAt, Nat.sub_zero]
  rw [if_neg (by omega), Addr.add_lit]
set_option maxHeartbeats 1000000 in
theorem ownBlock_any (key nonce : ByteArray) (n : Nat) (w : World) (hk : key.size = 32) (hn : nonce.size = 12) (hnn : n ≤ 4294967295) :
    Calls Try.prog 7 #[.string key, .string nonce, .int .i64 (n : Int)] w fun e w' => e = .returned (.tuple #[.string ⟨(chaB key.data.toList nonce.data.toList n).toArray⟩, .int .i64 0]) ∧ Below w.heap.size w w' := by
  obtain ⟨hz6, hi6⟩ := zero_of_info info64
  have hnm : (n : Int) % 4294967296 = (n : Int) := by omega
  have HC := Lib.hid (checkOk_any key nonce n w hk hn hnn)
  have HI0 := Lib.hid (initial_any key nonce n w hk hn hnn)
  have HL := Lib.hid (firstL_length key.data.toList nonce.data.toList n)
  have HCB : Hid (chaB key.data.toList nonce.data.toList n = outB (roundsL (firstL key.data.toList nonce.data.toList n) 10) (firstL key.data.toList nonce.data.toList n) 16) := Lib.hid rfl
  have HLB := Lib.hid (chaB_length key.data.toList nonce.data.toList n)
  have HS6 := Lib.hid hi6
  clear hk hn hi6
  go_enter Try.func7, Try.ntmps7
  go_wp2_with fail
  refine HC.out.mono ?_
  rintro e W1 ⟨rfl, rfl⟩
  go_wp2_with fail
  refine HI0.out.mono ?_
  rintro e W1 ⟨rfl, hb1⟩
  generalize firstL key.data.toList nonce.data.toList n = fl at *
  clear HI0
  go_wp2_with fail
  refine (block_any fl W1 HL.out).mono ?_
  rintro e W2 ⟨rfl, hb2⟩
  have hb : Below w.heap.size w W2 := hb1.trans (hb2.mono hb1.size)
  have hsz : w.heap.size ≤ W2.heap.size := Nat.le_trans hb1.size hb2.size
  rw [← HCB.out]
  generalize hrow : chaB key.data.toList nonce.data.toList n = row at *
  have HROW := Lib.hid hrow
  clear hrow
  have HI := Lib.hid (show (Try.prog.info? 33).map (·.size) = some (bcells row).size from by rw [bcells_size, HLB.out]; exact HS6.out)
  have HZ := Lib.hid (show zeros64.size = (bcells row).size from by rw [bcells_size, HLB.out]; exact bcells_size _)
  have HOne := Lib.hid (bcells_one row)
  have HG := Lib.hid (blk_new W2 (.cells zeros64 33))
  have HR := Lib.hid (setRow_heap (W2.alloc (.cells zeros64 33)) W2.heap.size _ (bcells row) _ _ HG.out)
  have hb3 : Below w.heap.size w ((W2.alloc (.cells zeros64 33)).setRow W2.heap.size (bcells row)) := below_setRow (hb.alloc hsz _) hsz _
  have sl := sliced_all 33 64 W2.heap.size (by kernel_rfl) (by kernel_rfl) (by kernel_rfl) (by omega)
  have hcv := run_string_row ((W2.alloc (.cells zeros64 33)).setRow W2.heap.size (bcells row)) W2.heap.size 64 row (cells_of_bcells HR.out)
  rw [HLB.out] at hcv
  clear hb1 hb2
  go_wp2_with (with_reducible refine wpList_store_row rfl 33 _ _ rfl W2.heap.size (bcells row) rfl rfl 33 _ HG.out HI.out HZ.out HOne.out ?_)
  go_ret2
  exact ⟨by rw [HROW.out]; rfl, hb3⟩
end Go.Proofs.Ytnjeelfeaiakpaa
