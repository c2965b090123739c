/- The laws' own small numbers. -/
import Derived.Test.YtcpdehfmlmmgiaaDoorPtCalls
import Derived.Test.YtcpdehfmlmmgiaaDoorConvS
namespace Go.Proofs.YtcpdehfmlmmgiaaDoor
open Go.RowKit Go.Sort
set_option maxRecDepth 100000
set_option linter.unusedSimpArgs false
set_option linter.unusedVariables false

def smT (n : Nat) : ByteArray := ⟨(leF n 32).toArray⟩
theorem smT_size (n : Nat) : (smT n).size = 32 := leF_length n 32
theorem leF_one (n : Nat) (h : n < 256) : leF n 32 = UInt8.ofNat n :: nilL 31 := by
  have e : leF n 32 = UInt8.ofNat n :: (List.range 31).map fun i => UInt8.ofNat (n / 256 ^ (i + 1)) := by
    rw [leF, List.range_succ_eq_map, List.map_cons, List.map_map, Nat.pow_zero, Nat.div_one]
    rfl
  rw [e, nilL]
  congr 1
  rw [List.eq_replicate_iff]
  refine ⟨by simp, fun b hb => ?_⟩
  obtain ⟨i, _, rfl⟩ := List.mem_map.1 hb
  rw [Nat.div_eq_of_lt]
  · rfl
  · have : 256 ^ 1 ≤ 256 ^ (i + 1) := Nat.pow_le_pow_right (by decide) (by omega)
    omega
theorem one_join (n : Nat) (h : n < 256) : (⟨#[UInt8.ofNat n]⟩ : ByteArray) ++ nilB 31 = smT n := by
  rw [smT, leF_one n h]
  apply ByteArray.ext
  rfl
def oneO (n : Nat) : Obj := .cells (bcells [UInt8.ofNat n]) 5

set_option maxHeartbeats 1000000 in
theorem small11_any (n : Nat) (w : World) (h : n < 256) :
    Calls Tryd.prog 23 #[.int .u8 (n : Int)] w fun e w' => e = .returned (.string (smT n)) ∧ Below w.heap.size w w' := by
  have hj := one_join n h
  have hn : (UInt8.ofNat n).toNat = n := by rw [UInt8.toNat_ofNat']; omega
  have HO := Lib.hid (show Obj.cells #[.int .u8 (n : Int)] 5 = oneO n by rw [oneO, bcells, Lib.byteCells, List.map_cons, List.map_nil, hn])
  generalize smT n = t at *
  clear h hn
  go_enter Tryd.func23, Tryd.ntmps23
  go_wp2_with fail
  refine wp_region_made 6 9 [.val (.int .u8 (n : Int)) [(0, .int .u8 (n : Int))], .new (oneO n) (mkS 1 1) [(3, .int .u8 (n : Int))], .from (.string ⟨#[UInt8.ofNat n]⟩) [] [(1, 4, oneO n, mkS 1 1)],
    .new (nilO 31) (mkS 31 31) [], .from (.string (nilB 31)) [] [(3, 6, nilO 31, mkS 31 31)], .val (.string t) [(5, .string ⟨#[UInt8.ofNat n]⟩), (7, .string (nilB 31))]]
    (by kernel_rfl) (by kernel_rfl) (by kernel_rfl) rfl ?_ ?_ ?_ ?_
  · simp [madeMk, MadeSpec.val, MadeSpec.from, MadeSpec.new]
  · simp only [List.take_succ_cons, List.take_zero, madeObl, madeSpecObl, MadeSpec.val, MadeSpec.from, MadeSpec.new, and_true]
    refine ⟨?_, ?_, ?_, ?_, ?_, ?_⟩
    · intro a w1 hb h _
      have e0 := h (0, .int .u8 (n : Int)) (by simp)
      simp only [Array.getD_eq_getD_getElem?] at e0
      simp [go_sem, e0, sQuiet]
    · refine ⟨fun g => rfl, ?_⟩
      intro a w1 hb h
      have e0 := h (3, .int .u8 (n : Int)) (by simp)
      simp only [Array.getD_eq_getD_getElem?] at e0
      rw [← HO.out]
      simp [go_sem, e0, mkS]
    · intro a w1 hb h hm
      obtain ⟨g, e1, hgo⟩ := hm _ (List.mem_singleton.2 rfl)
      simp only [Array.getD_eq_getD_getElem?] at e1
      simp [go_sem, e1, sQuiet, mkS, text_row w1 g 1 1 [UInt8.ofNat n] rfl hgo]
    · refine ⟨fun g => rfl, ?_⟩
      intro a w1 hb h
      simp [go_sem, make_nil w1 31 31 rfl (by omega), mkS]
    · intro a w1 hb h hm
      obtain ⟨g, e1, hgo⟩ := hm _ (List.mem_singleton.2 rfl)
      simp only [Array.getD_eq_getD_getElem?] at e1
      simp [go_sem, e1, sQuiet, mkS, text_nil w1 g 31 hgo]
    · intro a w1 hb h _
      have e0 := h (5, .string ⟨#[UInt8.ofNat n]⟩) (by simp)
      have e1 := h (7, .string (nilB 31)) (by simp)
      simp only [Array.getD_eq_getD_getElem?] at e0 e1
      simp [go_sem, e0, e1, sQuiet, hj, nilB_size]
  · simp [madeReads, headPut, madeV, MadeSpec.val, MadeSpec.from, MadeSpec.new, Act.put]
  · simp only [List.take_succ_cons, List.take_zero, List.drop_succ_cons, List.drop_zero, madeEnd, MadeSpec.val, MadeSpec.from, MadeSpec.new, Act.put, List.setIfInBounds_toArray, List.set_cons_succ, List.set_cons_zero]
    intro g0 _ _ g2 _ _ W2 hb3 _
    simp only [mkS]
    go_wp2_with fail
    go_ret
    exact ⟨rfl, hb3⟩
end Go.Proofs.YtcpdehfmlmmgiaaDoor
