/- The program's Xor; the chapter's example. -/
import Derived.Test.YtnjeelfeaiakpaaChaMask
namespace Go.Proofs.Ytnjeelfeaiakpaa
open Go.RowKit Go.Sort
set_option maxRecDepth 100000
set_option linter.unusedSimpArgs false
set_option linter.unusedVariables false

theorem ownXorErr_any (key nonce : ByteArray) (n q : Int) (data : ByteArray) (w : World) (hq : q ≠ 0) (h : ∀ W, Calls Try.prog 12 #[.string key, .string nonce, .int .i64 n] W fun e w' => e = .returned (.int .i64 q) ∧ W = w') :
    Calls Try.prog 10 #[.string key, .string nonce, .int .i64 n, .string data] w fun e w' => e = .returned (.tuple #[.string ⟨#[]⟩, .int .i64 q]) ∧ Below w.heap.size w w' := by
  have HC := Lib.hid h
  clear h
  have hd : (q != 0) = true := by simpa using hq
  go_enter Try.func10, Try.ntmps10
  go_wp2_with fail
  refine (HC.out _).mono ?_
  rintro e W1 ⟨rfl, rfl⟩
  go_wp2_with fail
  go_ret2
  exact ⟨rfl, Below.refl _ _⟩
theorem ownXorBig_any (key nonce : ByteArray) (n : Nat) (data : ByteArray) (w : World) (hk : key.size = 32) (hn : nonce.size = 12) (hnn : n ≤ 4294967295) (hs : data.size ≤ 1073741824) (h : 4294967296 < n + (data.size + 63) / 64) :
    Calls Try.prog 10 #[.string key, .string nonce, .int .i64 (n : Int), .string data] w fun e w' => e = .returned (.tuple #[.string ⟨#[]⟩, .int .i64 13]) ∧ Below w.heap.size w w' := by
  have HC := Lib.hid (checkOk_any key nonce n w hk hn hnn)
  have HB := Lib.hid (blocksFor_any data w (by omega))
  obtain ⟨b, hb⟩ : ∃ b : Nat, b = (data.size + 63) / 64 := ⟨_, rfl⟩
  rw [← hb] at h HB
  have hbb : b ≤ 16777217 := by omega
  have hd : decide ((4294967296 : Int) < (n : Int) + (b : Int)) = true := by simp; omega
  clear hk hn hb
  go_enter Try.func10, Try.ntmps10
  go_wp2_with fail
  refine HC.out.mono ?_
  rintro e W1 ⟨rfl, rfl⟩
  go_wp2_with fail
  refine HB.out.mono ?_
  rintro e W1 ⟨rfl, rfl⟩
  go_wp2_with fail
  go_ret2
  exact ⟨rfl, Below.refl _ _⟩
theorem ownXor_any (key nonce : ByteArray) (n : Nat) (data : ByteArray) (w : World) (hk : key.size = 32) (hn : nonce.size = 12) (hnn : n ≤ 4294967295) (hs : data.size ≤ 1073741824) (h : n + (data.size + 63) / 64 ≤ 4294967296) :
    Calls Try.prog 10 #[.string key, .string nonce, .int .i64 (n : Int), .string data] w fun e w' => e = .returned (.tuple #[.string ⟨(chaX key.data.toList nonce.data.toList n data.data.toList data.size).toArray⟩, .int .i64 0]) ∧ Below w.heap.size w w' := by
  have HC := Lib.hid (checkOk_any key nonce n w hk hn hnn)
  have HB := Lib.hid (blocksFor_any data w (by omega))
  have HI := Lib.hid (initial_any key nonce n w hk hn hnn)
  have HM := Lib.hid (fun W => masked_any key.data.toList nonce.data.toList n data W hs h)
  have hnm : (n : Int) % 4294967296 = (n : Int) := by omega
  obtain ⟨b, hb⟩ : ∃ b : Nat, b = (data.size + 63) / 64 := ⟨_, rfl⟩
  rw [← hb] at h HB
  have hbb : b ≤ 16777217 := by omega
  have hd : decide ((4294967296 : Int) < (n : Int) + (b : Int)) = false := by simp; omega
  clear hk hn hb
  go_enter Try.func10, Try.ntmps10
  go_wp2_with fail
  refine HC.out.mono ?_
  rintro e W1 ⟨rfl, rfl⟩
  go_wp2_with fail
  refine HB.out.mono ?_
  rintro e W1 ⟨rfl, rfl⟩
  go_wp2_with fail
  refine HI.out.mono ?_
  rintro e W1 ⟨rfl, hb1⟩
  generalize firstL key.data.toList nonce.data.toList n = fl at *
  go_wp2_with fail
  refine (HM.out W1).mono ?_
  rintro e W2 ⟨rfl, hb2⟩
  go_wp2_with fail
  go_ret2
  exact ⟨rfl, hb1.trans (hb2.mono hb1.size)⟩
end Go.Proofs.Ytnjeelfeaiakpaa
