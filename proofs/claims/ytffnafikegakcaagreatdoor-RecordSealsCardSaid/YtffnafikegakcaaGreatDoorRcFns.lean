/- Kinds, headers and Frame: the program's and the reference's. -/
import Derived.Test.YtffnafikegakcaaGreatDoorRcA
import Derived.Test.YtffnafikegakcaaGreatDoorConvS
import Derived.BigQuiet
namespace Go.Proofs.YtffnafikegakcaaGreatDoor
open Go.RowKit Go.Sort
set_option maxRecDepth 100000
set_option linter.unusedSimpArgs false
set_option linter.unusedVariables false

theorem isKind_any (n : Int) (w : World) :
    Calls Tryz.prog 24 #[.int .i64 n] w fun e w' => e = .returned (.bool (isK n)) ∧ w = w' := by
  rw [isK]
  by_cases h1 : 20 ≤ n
  · have d1 : decide (20 ≤ n) = true := by simpa using h1
    rw [d1, Bool.true_and]
    clear h1
    go_enter Tryz.func24, Tryz.ntmps24
    go_wp2_with fail
    go_ret
    exact ⟨rfl, rfl⟩
  · have d1 : decide (20 ≤ n) = false := by simpa using h1
    rw [d1, Bool.false_and]
    clear h1
    go_enter Tryz.func24, Tryz.ntmps24
    go_wp2_with fail
    go_ret
    exact ⟨rfl, rfl⟩
theorem risKind_any (n : Int) (w : World) :
    Calls Tryz.prog 29 #[.int .i64 n] w fun e w' => e = .returned (.bool (isK n)) ∧ w = w' := by
  rw [isK]
  by_cases h1 : 20 ≤ n
  · have d1 : decide (20 ≤ n) = true := by simpa using h1
    rw [d1, Bool.true_and]
    clear h1
    go_enter Tryz.func29, Tryz.ntmps29
    go_wp2_with fail
    go_ret
    exact ⟨rfl, rfl⟩
  · have d1 : decide (20 ≤ n) = false := by simpa using h1
    rw [d1, Bool.false_and]
    clear h1
    go_enter Tryz.func29, Tryz.ntmps29
    go_wp2_with fail
    go_ret
    exact ⟨rfl, rfl⟩

theorem head_cells (kind : Int) (n : Nat) : #[Value.int .u8 ((wbyte kind 0).toNat : Int), .int .u8 3, .int .u8 3, .int .u8 ((wbyte n 8).toNat : Int), .int .u8 ((wbyte n 0).toNat : Int)] = bcells (headL kind n) := rfl
theorem head_text (kind : Int) (n : Nat) (w : World) : (convert 46 9 (.slice (some ⟨w.heap.size, 0, none⟩) 5 5)).run Tryz.prog (w.alloc (.cells (bcells (headL kind n)) 5)) = .ok (.string (headB kind n)) (w.alloc (.cells (bcells (headL kind n)) 5)) :=
  text_row _ w.heap.size 5 5 (headL kind n) rfl (blk_new w _)
set_option maxHeartbeats 1000000 in
theorem header_any (kind : Int) (n : Nat) (w : World) :
    Calls Tryz.prog 26 #[.int .i64 kind, .int .i64 (n : Int)] w fun e w' => e = .returned (.string (headB kind n)) ∧ Below w.heap.size w w' := by
  have hcv := head_text kind n w
  rw [← head_cells] at hcv
  have e0 : IntKind.u8.wrap kind = ((wbyte kind 0).toNat : Int) := by rw [IntKind.wrap_u8, wbyte_toNat]; simp
  have e1 : IntKind.u8.wrap ((n : Int) / 256) = ((wbyte (n : Int) 8).toNat : Int) := by rw [IntKind.wrap_u8, wbyte_toNat]; rfl
  have e2 : IntKind.u8.wrap (n : Int) = ((wbyte (n : Int) 0).toNat : Int) := by rw [IntKind.wrap_u8, wbyte_toNat]; simp
  go_enter Tryz.func26, Tryz.ntmps26
  go_wp2_with fail
  go_ret
  exact ⟨rfl, below_new w _⟩
set_option maxHeartbeats 1000000 in
theorem rhead_any (kind : Int) (n : Nat) (w : World) (hn : n ≤ 1048576) :
    Calls Tryz.prog 31 #[.int .i64 kind, .int .i64 (n : Int)] w fun e w' => e = .returned (.string (headB kind n)) ∧ Below w.heap.size w w' := by
  have hcv := head_text kind n w
  rw [← head_cells] at hcv
  have e0 : IntKind.u8.wrap kind = ((wbyte kind 0).toNat : Int) := by rw [IntKind.wrap_u8, wbyte_toNat]; simp
  have e1 : (n : Int) / 256 % 256 = ((wbyte (n : Int) 8).toNat : Int) := by rw [wbyte_toNat]; rfl
  have e2 : IntKind.u8.wrap ((n : Int) % 256) = ((wbyte (n : Int) 0).toNat : Int) := by rw [IntKind.wrap_u8, wbyte_toNat]; simp
  have e3 : ((n : Int)).tdiv 256 = (n : Int) / 256 := Int.tdiv_eq_ediv_of_nonneg (by omega)
  have e4 : ((n : Int)).tmod 256 = (n : Int) % 256 := Int.tmod_eq_emod_of_nonneg (by omega)
  go_enter Tryz.func31, Tryz.ntmps31
  go_wp2_with fail
  go_ret
  exact ⟨rfl, below_new w _⟩

set_option maxHeartbeats 1000000 in
theorem frame_any (kind : Int) (body : ByteArray) (w : World) (hb : body.size ≤ 1048576) :
    Calls Tryz.prog 22 #[.int .i64 kind, .string body] w fun e w' => e = .returned (.tuple #[.string (frO kind body).1, .int .i64 (frO kind body).2]) ∧ Below w.heap.size w w' := by
  have CK := Lib.hid (fun W => isKind_any kind W)
  have CH := Lib.hid (fun W => header_any kind body.size W)
  rw [frO]
  cases hk : isK kind with
  | false =>
    rw [hk] at CK
    rw [if_pos rfl]
    clear hk CH
    go_enter Tryz.func22, Tryz.ntmps22
    go_wp2_with fail
    refine (CK.out w).mono ?_
    rintro e W ⟨rfl, rfl⟩
    go_wp2_with fail
    go_ret2
    exact ⟨rfl, Below.refl _ _⟩
  | true =>
    rw [hk] at CK
    rw [if_neg (by decide)]
    clear hk
    by_cases hs : 16640 < body.size
    · rw [if_pos hs]
      have d1 : decide ((16640 : Int) < (body.size : Int)) = true := by simp; omega
      clear hs CH hb
      go_enter Tryz.func22, Tryz.ntmps22
      go_wp2_with fail
      refine (CK.out w).mono ?_
      rintro e W ⟨rfl, rfl⟩
      go_wp2_with fail
      go_ret2
      exact ⟨rfl, Below.refl _ _⟩
    · rw [if_neg hs]
      have d1 : decide ((16640 : Int) < (body.size : Int)) = false := by simp; omega
      have hh := headB_size kind body.size
      generalize headB kind body.size = h at *
      have k1 : h.size + body.size ≤ 9223372036854775807 := by omega
      clear hs hb hh
      go_enter Tryz.func22, Tryz.ntmps22
      go_wp2_with fail
      refine (CK.out w).mono ?_
      rintro e W ⟨rfl, rfl⟩
      go_wp2_with fail
      refine (CH.out _).mono ?_
      rintro e W ⟨rfl, hb⟩
      go_wp2_with fail
      go_ret2
      exact ⟨rfl, hb⟩
end Go.Proofs.YtffnafikegakcaaGreatDoor
