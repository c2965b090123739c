/- The program's Seal and Open, by whatever suite. -/
import Derived.Test.YtaodbhhdjehnnaaGreatDoorSealCha
namespace Go.Proofs.YtaodbhhdjehnnaaGreatDoor
open Go.RowKit Go.Sort
set_option maxRecDepth 100000
set_option linter.unusedSimpArgs false
set_option linter.unusedVariables false

def noB : ByteArray := ⟨#[]⟩
/-- What Seal answers: a text and an error's number. -/
def sealO (suite : Int) (key nonce beside plain : ByteArray) : ByteArray × Int :=
  if suite = 4865 then
    if key.size = 16 ∧ nonce.size = 12 then (⟨(sealG key.data.toList nonce.data.toList beside.data.toList plain.data.toList).toArray⟩, 0) else (noB, 21)
  else if suite = 4867 then
    if key.size = 32 ∧ nonce.size = 12 then (⟨(sealS key.data.toList nonce.data.toList beside.data.toList plain.data.toList).toArray⟩, 0) else (noB, 21)
  else (noB, 1)
/-- What Open answers. -/
def openO (suite : Int) (key nonce beside sealed : ByteArray) : ByteArray × Int :=
  if suite = 4865 then
    if key.size = 16 ∧ nonce.size = 12 then
      if sealed.size < 16 then (noB, 20)
      else if tagOk key.data.toList nonce.data.toList beside.data.toList sealed.data.toList then (⟨(openG key.data.toList nonce.data.toList beside.data.toList sealed.data.toList).toArray⟩, 0) else (noB, 20)
    else (noB, 21)
  else if suite = 4867 then
    if key.size = 32 ∧ nonce.size = 12 then
      if sealed.size < 16 then (noB, 20)
      else if tagOkS key.data.toList nonce.data.toList beside.data.toList sealed.data.toList then (⟨(openS key.data.toList nonce.data.toList beside.data.toList sealed.data.toList).toArray⟩, 0) else (noB, 20)
    else (noB, 21)
  else (noB, 1)
/-- An answer of a text and an error. -/
def ansO (x : ByteArray × Int) : Ending := .returned (.tuple #[.string x.1, .int .i64 x.2])

theorem below_eq {P : Program} {f : Nat} {args : Array Value} {w : World} {e0 : Ending} (h : Calls P f args w fun e w' => e = e0 ∧ w = w') : Calls P f args w fun e w' => e = e0 ∧ Below w.heap.size w w' :=
  h.mono fun e w' ⟨h1, h2⟩ => ⟨h1, by subst h2; exact Below.refl _ _⟩
theorem ite_ans (c : Bool) (a : ByteArray) (e : ByteArray × Int) (he : e = if c then (a, 0) else (noB, 20)) : (Ending.returned (if c then .tuple #[.string a, .int .i64 0] else .tuple #[.string ⟨#[]⟩, .int .i64 20])) = ansO e := by subst he; cases c <;> rfl

theorem gsealO_any (key nonce beside plain : ByteArray) (w : World) (h1 : beside.size ≤ 15000) (h2 : plain.size ≤ 15000) (hT : TabQ w) :
    Calls Tryz.prog 13 #[.string key, .string nonce, .string beside, .string plain] w fun e w' => e = ansO (sealO 4865 key nonce beside plain) ∧ Below w.heap.size w w' := by
  by_cases h : key.size = 16 ∧ nonce.size = 12
  · rw [sealO, if_pos rfl, if_pos h]; exact gseal_any key nonce beside plain w h.1 h.2 h1 h2 hT
  · rw [sealO, if_pos rfl, if_neg h]; exact below_eq (gsealKey_any key nonce beside plain w (by omega))
theorem csealO_any (key nonce beside plain : ByteArray) (w : World) (h1 : beside.size ≤ 1048576) (h2 : plain.size ≤ 1048576) :
    Calls Tryz.prog 14 #[.string key, .string nonce, .string beside, .string plain] w fun e w' => e = ansO (sealO 4867 key nonce beside plain) ∧ Below w.heap.size w w' := by
  by_cases h : key.size = 32 ∧ nonce.size = 12
  · rw [sealO, if_neg (by decide), if_pos rfl, if_pos h]; exact cseal_any key nonce beside plain w h.1 h.2 h1 h2
  · rw [sealO, if_neg (by decide), if_pos rfl, if_neg h]; exact below_eq (csealKey_any key nonce beside plain w (by omega))
theorem gopenO_any (key nonce beside sealed : ByteArray) (w : World) (h1 : beside.size ≤ 15000) (h2 : sealed.size ≤ 15000) (hT : TabQ w) :
    Calls Tryz.prog 18 #[.string key, .string nonce, .string beside, .string sealed] w fun e w' => e = ansO (openO 4865 key nonce beside sealed) ∧ Below w.heap.size w w' := by
  by_cases h : key.size = 16 ∧ nonce.size = 12
  · by_cases hs : sealed.size < 16
    · rw [openO, if_pos rfl, if_pos h, if_pos hs]; exact below_eq (gopenShort_any key nonce beside sealed w h.1 h.2 hs)
    · rw [openO, if_pos rfl, if_pos h, if_neg hs, ← ite_ans _ _ _ rfl]; exact gopen_any key nonce beside sealed w h.1 h.2 h1 h2 (by omega) hT
  · rw [openO, if_pos rfl, if_neg h]; exact below_eq (gopenKey_any key nonce beside sealed w (by omega))
theorem copenO_any (key nonce beside sealed : ByteArray) (w : World) (h1 : beside.size ≤ 1048576) (h2 : sealed.size ≤ 1048592) :
    Calls Tryz.prog 19 #[.string key, .string nonce, .string beside, .string sealed] w fun e w' => e = ansO (openO 4867 key nonce beside sealed) ∧ Below w.heap.size w w' := by
  by_cases h : key.size = 32 ∧ nonce.size = 12
  · by_cases hs : sealed.size < 16
    · rw [openO, if_neg (by decide), if_pos rfl, if_pos h, if_pos hs]; exact below_eq (copenShort_any key nonce beside sealed w h.1 h.2 hs)
    · rw [openO, if_neg (by decide), if_pos rfl, if_pos h, if_neg hs, ← ite_ans _ _ _ rfl]; exact copen_any key nonce beside sealed w h.1 h.2 h1 h2 (by omega)
  · rw [openO, if_neg (by decide), if_pos rfl, if_neg h]; exact below_eq (copenKey_any key nonce beside sealed w (by omega))

set_option maxHeartbeats 1000000 in
theorem sealO_any (suite : Int) (key nonce beside plain : ByteArray) (w : World) (h1 : beside.size ≤ 15000) (h2 : plain.size ≤ 15000) (hT : TabQ w) :
    Calls Tryz.prog 7 #[.int .i64 suite, .string key, .string nonce, .string beside, .string plain] w fun e w' => e = ansO (sealO suite key nonce beside plain) ∧ Below w.heap.size w w' := by
  by_cases hs1 : suite = 4865
  · subst hs1
    have HG := Lib.hid (gsealO_any key nonce beside plain w h1 h2 hT)
    unfold ansO at HG ⊢
    generalize sealO 4865 key nonce beside plain = x at *
    obtain ⟨x1, x2⟩ := x
    go_enter Tryz.func7, Tryz.ntmps7
    go_wp2_with fail
    refine HG.out.mono ?_
    rintro e W1 ⟨rfl, hb1⟩
    go_wp2_with fail
    go_ret2
    exact ⟨rfl, hb1⟩
  · have d1 : (suite == 4865) = false := by simpa using hs1
    by_cases hs2 : suite = 4867
    · subst hs2
      have HG := Lib.hid (csealO_any key nonce beside plain w (by omega) (by omega))
      unfold ansO at HG ⊢
      generalize sealO 4867 key nonce beside plain = x at *
      obtain ⟨x1, x2⟩ := x
      go_enter Tryz.func7, Tryz.ntmps7
      go_wp2_with fail
      refine HG.out.mono ?_
      rintro e W1 ⟨rfl, hb1⟩
      go_wp2_with fail
      go_ret2
      exact ⟨rfl, hb1⟩
    · have d2 : (suite == 4867) = false := by simpa using hs2
      rw [sealO, if_neg hs1, if_neg hs2]
      clear hs1 hs2
      go_enter Tryz.func7, Tryz.ntmps7
      go_wp2_with fail
      go_ret2
      exact ⟨rfl, Below.refl _ _⟩

set_option maxHeartbeats 1000000 in
theorem openO_any (suite : Int) (key nonce beside sealed : ByteArray) (w : World) (h1 : beside.size ≤ 15000) (h2 : sealed.size ≤ 15000) (hT : TabQ w) :
    Calls Tryz.prog 9 #[.int .i64 suite, .string key, .string nonce, .string beside, .string sealed] w fun e w' => e = ansO (openO suite key nonce beside sealed) ∧ Below w.heap.size w w' := by
  by_cases hs1 : suite = 4865
  · subst hs1
    have HG := Lib.hid (gopenO_any key nonce beside sealed w h1 h2 hT)
    unfold ansO at HG ⊢
    generalize openO 4865 key nonce beside sealed = x at *
    obtain ⟨x1, x2⟩ := x
    go_enter Tryz.func9, Tryz.ntmps9
    go_wp2_with fail
    refine HG.out.mono ?_
    rintro e W1 ⟨rfl, hb1⟩
    go_wp2_with fail
    go_ret2
    exact ⟨rfl, hb1⟩
  · have d1 : (suite == 4865) = false := by simpa using hs1
    by_cases hs2 : suite = 4867
    · subst hs2
      have HG := Lib.hid (copenO_any key nonce beside sealed w (by omega) (by omega))
      unfold ansO at HG ⊢
      generalize openO 4867 key nonce beside sealed = x at *
      obtain ⟨x1, x2⟩ := x
      go_enter Tryz.func9, Tryz.ntmps9
      go_wp2_with fail
      refine HG.out.mono ?_
      rintro e W1 ⟨rfl, hb1⟩
      go_wp2_with fail
      go_ret2
      exact ⟨rfl, hb1⟩
    · have d2 : (suite == 4867) = false := by simpa using hs2
      rw [openO, if_neg hs1, if_neg hs2]
      clear hs1 hs2
      go_enter Tryz.func9, Tryz.ntmps9
      go_wp2_with fail
      go_ret2
      exact ⟨rfl, Below.refl _ _⟩
/-- A short text is opened by none (whatever the sizes): the chapter's example. -/
theorem copenEmpty (key nonce : ByteArray) (hk : key.size = 32) (hn : nonce.size = 12) : openO 4867 key nonce noB noB = (noB, 20) := by
  rw [openO, if_neg (by decide), if_pos rfl, if_pos ⟨hk, hn⟩, if_pos (by decide)]
end Go.Proofs.YtaodbhhdjehnnaaGreatDoor
