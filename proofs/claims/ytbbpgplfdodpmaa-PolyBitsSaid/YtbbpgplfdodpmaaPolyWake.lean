/- The chapter's example holds; and the program's tag is the reference's. -/
import Derived.Test.YtbbpgplfdodpmaaPolyTop
namespace Go.Proofs.Ytbbpgplfdodpmaa
open Go.RowKit Go.Sort
set_option maxRecDepth 100000
set_option linter.unusedSimpArgs false
set_option linter.unusedVariables false

theorem pbegins (l m : List UInt8) (n : Nat) (hl : l.length = n) (h : (l.take 4 == m) = true) (hn : 4 ≤ n) :
    (((⟨l.toArray⟩ : ByteArray).size : Int) == (n : Int)) = true ∧ (4 : Int) ≤ ((⟨l.toArray⟩ : ByteArray).size : Int) ∧ (((⟨l.toArray⟩ : ByteArray).extract 0 4).toList == m) = true := by
  have e : (⟨l.toArray⟩ : ByteArray).size = n := by rw [← hl]; rfl
  refine ⟨by rw [e]; simp, by rw [e]; omega, ?_⟩
  rw [Lib.toList_data, Lib.extract_data]
  simpa using h
theorem polyTag_length (k d : List UInt8) : (polyTag k d).length = 16 := leOut_length _ _
def exK : List UInt8 := [133, 214, 190, 120, 87, 85, 109, 51, 127, 68, 82, 254, 66, 213, 6, 168, 1, 3, 128, 138, 251, 13, 178, 253, 74, 191, 246, 175, 65, 73, 245, 27]
def exD : List UInt8 := [67, 114, 121, 112, 116, 111, 103, 114, 97, 112, 104, 105, 99, 32, 70, 111, 114, 117, 109, 32, 82, 101, 115, 101, 97, 114, 99, 104, 32, 71, 114, 111, 117, 112]
set_option maxHeartbeats 1000000 in
theorem pawake_any (w : World) :
    Calls Try.prog 7 #[] w fun e w' => e = .returned (.bool true) ∧ Below w.heap.size w w' := by
  have H1 := Lib.hid (ownTag_any ⟨#[133, 214, 190, 120, 87, 85, 109, 51, 127, 68, 82, 254, 66, 213, 6, 168, 1, 3, 128, 138, 251, 13, 178, 253, 74, 191, 246, 175, 65, 73, 245, 27]⟩ ⟨#[67, 114, 121, 112, 116, 111, 103, 114, 97, 112, 104, 105, 99, 32, 70, 111, 114, 117, 109, 32, 82, 101, 115, 101, 97, 114, 99, 104, 32, 71, 114, 111, 117, 112]⟩ w (by decide) (by decide))
  obtain ⟨a1, a2, a3⟩ := pbegins (polyTag exK exD) _ 16 (polyTag_length _ _) poly_example (by omega)
  have A1 := Lib.hid a1; have A3 := Lib.hid a3; have A2 := Lib.hid a2
  clear a1 a2 a3
  go_enter Try.func7, Try.ntmps7
  go_wp2_with fail
  refine H1.out.mono ?_
  rintro e W1 ⟨rfl, hb1⟩
  rw [show polyTag (⟨#[133, 214, 190, 120, 87, 85, 109, 51, 127, 68, 82, 254, 66, 213, 6, 168, 1, 3, 128, 138, 251, 13, 178, 253, 74, 191, 246, 175, 65, 73, 245, 27]⟩ : ByteArray).data.toList (⟨#[67, 114, 121, 112, 116, 111, 103, 114, 97, 112, 104, 105, 99, 32, 70, 111, 114, 117, 109, 32, 82, 101, 115, 101, 97, 114, 99, 104, 32, 71, 114, 111, 117, 112]⟩ : ByteArray).data.toList = polyTag exK exD from rfl]
  generalize (⟨(polyTag exK exD).toArray⟩ : ByteArray) = a at *
  have a1 := A1.out; have a2 := A2.out; have a3 := A3.out
  clear A1 A2 A3 H1
  simp only [Int.cast_ofNat_Int] at a1
  go_wp2_with fail
  go_ret
  exact ⟨rfl, hb1⟩

/-- The program's tag and the reference's are one. -/
theorem polySame (key data : ByteArray) (hd : data.size ≤ 1048576) : ∃ (x : ByteArray) (q : Int), (∀ W, Calls Try.prog 8 #[.string key, .string data] W fun e w' => e = .returned (.tuple #[.string x, .int .i64 q]) ∧ Below W.heap.size W w') ∧ (∀ W, Calls Try.prog 9 #[.string key, .string data] W fun e w' => e = .returned (.tuple #[.string x, .int .i64 q]) ∧ Below W.heap.size W w') := by
  by_cases hk : key.size = 32
  · exact ⟨_, 0, fun W => ownTag_any key data W hk (by omega), fun W => refTag_any key data W hk hd⟩
  · exact ⟨⟨#[]⟩, 21, fun W => ownTagKey_any key data W hk, fun W => refTagKey_any key data W hk⟩
end Go.Proofs.Ytbbpgplfdodpmaa
