/- Things of the document on bytes: tags, what a thing is, the first thing of bytes. No program; Whether a number is a tag; the first thing of bytes (package cressetref13); A thing of a tag: the reference's Write; The number that a thing has in it: the reference's ReadInt; What is written is read, and what is read is written again. No program; A number as a thing: the reference's Int; Numbers as bytes, back and forth: the bytes of a number are read as it, and what is read is written again. No program; Names of numbers as bytes, back and forth: groups of seven bits, what a name's body is, which name bytes are. No program; Slices of numbers as calls are handed them, and whether two are the same; A number in groups: the reference's group; A name of numbers as a thing: the reference's Oid. -/
import Derived.Test.YteomfleofeeofaaGreatDoorConvS
import Derived.Test.YteomfleofeeofaaGreatDoorToldG
namespace Go.Proofs.YteomfleofeeofaaGreatDoor
section
set_option maxRecDepth 100000
set_option linter.unusedSimpArgs false
set_option linter.unusedVariables false

/-- Whether a number is a tag. -/
def isT (n : Int) : Bool := decide (0 ≤ n) && decide (n ≤ 255) && (n % 32 != 31)
/-- The bytes of a length; a thing. -/
def lenL (n : Nat) : List UInt8 := if n < 128 then [UInt8.ofNat n] else if n < 256 then [129, UInt8.ofNat n] else [130, UInt8.ofNat (n / 256), UInt8.ofNat n]
def wrL (tag : Int) (n : Nat) : List UInt8 := UInt8.ofNat tag.toNat :: lenL n
def wrE (tag : Int) (body : ByteArray) : Int := if isT tag = true then (if body.size < 65536 then 0 else 13) else 1
def wrX (tag : Int) (body : ByteArray) : ByteArray := if wrE tag body = 0 then ⟨(wrL tag body.size).toArray⟩ ++ body else ⟨#[]⟩
/-- The first thing of bytes: where its body begins, how many bytes it has, what is wrong. -/
def rdB (l : List UInt8) (i : Nat) : Nat := (l.getD i 0).toNat
theorem rdB_lt (l : List UInt8) (i : Nat) : rdB l i < 256 := UInt8.toNat_lt _
def rdA (l : List UInt8) : Nat := if 128 < rdB l 1 then rdB l 1 - 126 else 2
def rdN (l : List UInt8) : Nat := if rdB l 1 = 129 then rdB l 2 else if rdB l 1 = 130 then 256 * rdB l 2 + rdB l 3 else rdB l 1
def rdE (l : List UInt8) : Int :=
  if l.length = 0 then 10 else if rdB l 0 % 32 = 31 then 11 else if l.length < 2 then 10 else if rdB l 1 = 128 ∨ 130 < rdB l 1 then 11 else if l.length < rdA l then 10 else
    if (rdB l 1 = 129 ∧ rdN l < 128) ∨ (rdB l 1 = 130 ∧ rdN l < 256) then 11 else if l.length < rdA l + rdN l then 10 else 0
def rdTag (s : ByteArray) : Int := if rdE s.data.toList = 0 then (rdB s.data.toList 0 : Int) else 0
def rdBody (s : ByteArray) : ByteArray := if rdE s.data.toList = 0 then s.extract (rdA s.data.toList) (rdA s.data.toList + rdN s.data.toList) else ⟨#[]⟩
def rdRest (s : ByteArray) : ByteArray := if rdE s.data.toList = 0 then s.extract (rdA s.data.toList + rdN s.data.toList) s.size else ⟨#[]⟩
def rdErr (s : ByteArray) : Int := rdE s.data.toList
theorem rd_bad (s : ByteArray) (e : Int) (h : rdE s.data.toList = e) (he : e ≠ 0) : rdTag s = 0 ∧ rdBody s = ⟨#[]⟩ ∧ rdRest s = ⟨#[]⟩ ∧ rdErr s = e := by
  have hn : ¬ rdE s.data.toList = 0 := by rw [h]; exact he
  exact ⟨if_neg hn, if_neg hn, if_neg hn, h⟩
theorem rd_good (s : ByteArray) (h : rdE s.data.toList = 0) : rdTag s = (rdB s.data.toList 0 : Int) ∧ rdBody s = s.extract (rdA s.data.toList) (rdA s.data.toList + rdN s.data.toList) ∧ rdRest s = s.extract (rdA s.data.toList + rdN s.data.toList) s.size ∧ rdErr s = 0 :=
  ⟨if_pos h, if_pos h, if_pos h, h⟩
theorem rd_at (s : ByteArray) (i : Nat) (hi : i < s.size) : ∀ k : i < s.size, ((s[i]'k).toNat : Int) = (rdB s.data.toList i : Int) := fun k => by
  rw [rdB, List.getD_eq_getElem?_getD, Array.getElem?_toList]
  simp [k]
  rfl
theorem isT_byte (b : Nat) (h : b < 256) : isT (b : Int) = !decide (b % 32 = 31) := by
  rw [isT, decide_eq_true (by omega), decide_eq_true (by omega), Bool.true_and, Bool.true_and, bne]
  congr 1
  by_cases c : b % 32 = 31
  · rw [decide_eq_true c]; simp; omega
  · rw [decide_eq_false c]; simp; omega
theorem rd_sizes (s : ByteArray) (h : rdErr s = 0) : (rdBody s).size ≤ s.size ∧ (rdRest s).size < s.size := by
  obtain ⟨_, h2, h3, _⟩ := rd_good s h
  have hl : s.data.toList.length = s.size := (Lib.size_eq s).symm
  have hA : 2 ≤ rdA s.data.toList := by rw [rdA]; split <;> omega
  have hk : rdA s.data.toList + rdN s.data.toList ≤ s.size := by
    have h' : rdE s.data.toList = 0 := h
    rw [rdE] at h'
    split at h'
    · cases h'
    split at h'
    · cases h'
    split at h'
    · cases h'
    split at h'
    · cases h'
    split at h'
    · cases h'
    split at h'
    · cases h'
    split at h'
    · cases h'
    omega
  rw [h2, h3, ByteArray.size_extract, ByteArray.size_extract]
  omega
open Go.RowKit Go.Sort in
theorem results_tmp4 {fn : Func} {t u v x : Tmp} (h : fn.results = #[.tmp t, .tmp u, .tmp v, .tmp x]) (tmps : Array Value) (P : Program) (w : World) :
    (results fn tmps).run P w = .ok (.tuple #[tmps.getD t undef, tmps.getD u undef, tmps.getD v undef, tmps.getD x undef]) w := by
  simp [results, h]
end

section
open Go.RowKit Go.Sort
set_option maxRecDepth 100000
set_option linter.unusedSimpArgs false
set_option linter.unusedVariables false

set_option maxHeartbeats 1000000 in
theorem risTag_any (n : Int) (w : World) (h0 : -9223372036854775808 ≤ n) (h1 : n ≤ 9223372036854775807) :
    Calls Tryz.prog 178 #[.int .i64 n] w fun e w' => e = .returned (.bool (isT n)) ∧ Below w.heap.size w w' := by
  have hv : isT n = (decide (0 ≤ n) && decide (n ≤ 255) && (n % 32 != 31)) := rfl
  by_cases c1 : 0 ≤ n
  · have d1 : decide (0 ≤ n) = true := decide_eq_true c1
    by_cases c2 : n ≤ 255
    · have d2 : decide (n ≤ 255) = true := decide_eq_true c2
      rw [d1, d2, Bool.true_and, Bool.true_and] at hv
      have hr : n.tmod 32 = n % 32 := Int.tmod_eq_emod_of_nonneg c1
      cases c3 : (n % 32 != 31) with
      | true =>
        rw [c3] at hv
        have HV := Lib.hid hv
        clear hv
        go_enter Tryz.func178, Tryz.ntmps178
        go_wp2_with fail
        go_ret
        exact ⟨by rw [HV.out]; rfl, Below.refl _ _⟩
      | false =>
        rw [c3] at hv
        have HV := Lib.hid hv
        clear hv
        go_enter Tryz.func178, Tryz.ntmps178
        go_wp2_with fail
        go_ret
        exact ⟨by rw [HV.out]; rfl, Below.refl _ _⟩
    · have d2 : decide (n ≤ 255) = false := decide_eq_false c2
      rw [d1, d2] at hv
      have HV := Lib.hid hv
      clear hv
      go_enter Tryz.func178, Tryz.ntmps178
      go_wp2_with fail
      go_ret
      exact ⟨by rw [HV.out]; rfl, Below.refl _ _⟩
  · have d1 : decide (0 ≤ n) = false := decide_eq_false c1
    rw [d1] at hv
    have HV := Lib.hid hv
    clear hv
    go_enter Tryz.func178, Tryz.ntmps178
    go_wp2_with fail
    go_ret
    exact ⟨by rw [HV.out]; rfl, Below.refl _ _⟩
set_option maxHeartbeats 16000000 in
theorem rRead_any (s : ByteArray) (w : World) (hs : s.size ≤ 1000000000) :
    Calls Tryz.prog 135 #[.string s] w fun e w' => e = .returned (.tuple #[.int .i64 (rdTag s), .string (rdBody s), .string (rdRest s), .int .i64 (rdErr s)]) ∧ Below w.heap.size w w' := by
  have hl : s.data.toList.length = s.size := (Lib.size_eq s).symm
  have hb := Below.refl w.heap.size w
  by_cases c0 : s.size = 0
  · have q0 : (s.toList == []) = true := by rw [Lib.toList_data]; have : s.data.toList = [] := List.length_eq_zero_iff.1 (by omega); rw [this]; rfl
    have HB := Lib.hid (rd_bad s 10 (by rw [rdE, if_pos (by omega)]) (by decide))
    clear hl hs
    go_enter Tryz.func135, Tryz.ntmps135
    go_wp2_with fail
    (try simp only [Exit.inBlock, Exit.then])
    exact bodyPost_ret (results_tmp4 rfl _ _ _) rfl ⟨by rw [HB.out.1, HB.out.2.1, HB.out.2.2.1, HB.out.2.2.2]; rfl, hb⟩
  have q0 : (s.toList == []) = false := by rw [Lib.toList_data]; cases h : s.data.toList with | nil => rw [h] at hl; exact absurd hl.symm c0 | cons a r => rfl
  have hl0 : 0 < s.size := by omega
  have hi0 : (0 : Int) < (s.size : Int) := by omega
  have t0 := rd_at s 0 hl0
  have h0 := rdB_lt s.data.toList 0
  have CT := Lib.hid (fun W => risTag_any (rdB s.data.toList 0 : Int) W (by omega) (by omega))
  rw [isT_byte _ h0] at CT
  have n0 : ¬ s.data.toList.length = 0 := by omega
  by_cases c1 : rdB s.data.toList 0 % 32 = 31
  · rw [decide_eq_true c1, Bool.not_true] at CT
    have HB := Lib.hid (rd_bad s 11 (by rw [rdE, if_neg n0, if_pos c1]) (by decide))
    generalize rdB s.data.toList 0 = b0 at *
    clear hl hs n0 c1 c0
    go_enter Tryz.func135, Tryz.ntmps135
    go_wp2_with fail
    refine (CT.out _).mono ?_
    rintro e W1 ⟨rfl, bk⟩
    replace hb := hb.trans (bk.mono hb.size)
    clear bk CT
    go_wp2_with fail
    (try simp only [Exit.inBlock, Exit.then])
    exact bodyPost_ret (results_tmp4 rfl _ _ _) rfl ⟨by rw [HB.out.1, HB.out.2.1, HB.out.2.2.1, HB.out.2.2.2]; rfl, hb⟩
  rw [decide_eq_false c1, Bool.not_false] at CT
  by_cases c2 : s.size < 2
  · have d2 : decide ((s.size : Int) < 2) = true := by simp; omega
    have HB := Lib.hid (rd_bad s 10 (by rw [rdE, if_neg n0, if_neg c1, if_pos (by omega)]) (by decide))
    generalize rdB s.data.toList 0 = b0 at *
    clear hl hs n0 c1 c0 c2
    go_enter Tryz.func135, Tryz.ntmps135
    go_wp2_with fail
    refine (CT.out _).mono ?_
    rintro e W1 ⟨rfl, bk⟩
    replace hb := hb.trans (bk.mono hb.size)
    clear bk CT
    go_wp2_with fail
    (try simp only [Exit.inBlock, Exit.then])
    exact bodyPost_ret (results_tmp4 rfl _ _ _) rfl ⟨by rw [HB.out.1, HB.out.2.1, HB.out.2.2.1, HB.out.2.2.2]; rfl, hb⟩
  have n2 : ¬ s.data.toList.length < 2 := by omega
  have d2 : decide ((s.size : Int) < 2) = false := by simp; omega
  have hl1 : 1 < s.size := by omega
  have hi1 : (1 : Int) < (s.size : Int) := by omega
  have t1 := rd_at s 1 hl1
  have h1 := rdB_lt s.data.toList 1
  by_cases c3 : rdB s.data.toList 1 = 128
  · have d3 : ((rdB s.data.toList 1 : Int) == 128) = true := by simp; omega
    have HB := Lib.hid (rd_bad s 11 (by rw [rdE, if_neg n0, if_neg c1, if_neg n2, if_pos (.inl c3)]) (by decide))
    generalize rdB s.data.toList 0 = b0 at *
    generalize rdB s.data.toList 1 = b1 at *
    clear hl hs n0 n2 c0 c1 c2 c3
    go_enter Tryz.func135, Tryz.ntmps135
    go_wp2_with fail
    refine (CT.out _).mono ?_
    rintro e W1 ⟨rfl, bk⟩
    replace hb := hb.trans (bk.mono hb.size)
    clear bk CT
    go_wp2_with fail
    (try simp only [Exit.inBlock, Exit.then])
    exact bodyPost_ret (results_tmp4 rfl _ _ _) rfl ⟨by rw [HB.out.1, HB.out.2.1, HB.out.2.2.1, HB.out.2.2.2]; rfl, hb⟩
  have d3 : ((rdB s.data.toList 1 : Int) == 128) = false := by simp; omega
  by_cases c4 : 130 < rdB s.data.toList 1
  · have d4 : decide (130 < (rdB s.data.toList 1 : Int)) = true := by simp; omega
    have HB := Lib.hid (rd_bad s 11 (by rw [rdE, if_neg n0, if_neg c1, if_neg n2, if_pos (.inr c4)]) (by decide))
    generalize rdB s.data.toList 0 = b0 at *
    generalize rdB s.data.toList 1 = b1 at *
    clear hl hs n0 n2 c0 c1 c2 c3 c4
    go_enter Tryz.func135, Tryz.ntmps135
    go_wp2_with fail
    refine (CT.out _).mono ?_
    rintro e W1 ⟨rfl, bk⟩
    replace hb := hb.trans (bk.mono hb.size)
    clear bk CT
    go_wp2_with fail
    (try simp only [Exit.inBlock, Exit.then])
    exact bodyPost_ret (results_tmp4 rfl _ _ _) rfl ⟨by rw [HB.out.1, HB.out.2.1, HB.out.2.2.1, HB.out.2.2.2]; rfl, hb⟩
  have d4 : decide (130 < (rdB s.data.toList 1 : Int)) = false := by simp; omega
  have n3 : ¬ (rdB s.data.toList 1 = 128 ∨ 130 < rdB s.data.toList 1) := by omega
  by_cases c5 : rdB s.data.toList 1 < 128
  · have d5 : decide (128 < (rdB s.data.toList 1 : Int)) = false := by simp; omega
    have hA : rdA s.data.toList = 2 := if_neg (by omega)
    have hN : rdN s.data.toList = rdB s.data.toList 1 := by rw [rdN, if_neg (by omega), if_neg (by omega)]
    by_cases c6 : s.size < 2 + rdB s.data.toList 1
    · have d6 : decide ((s.size : Int) < 2 + (rdB s.data.toList 1 : Int)) = true := by simp; omega
      have HB := Lib.hid (rd_bad s 10 (by rw [rdE, if_neg n0, if_neg c1, if_neg n2, if_neg n3, if_neg (by omega), if_neg (by omega), if_pos (by omega)]) (by decide))
      generalize rdB s.data.toList 0 = b0 at *
      generalize rdB s.data.toList 1 = b1 at *
      clear hl hs n0 n2 n3 c0 c1 c2 c3 c4 c5 c6 hA hN
      go_enter Tryz.func135, Tryz.ntmps135
      go_wp2_with fail
      refine (CT.out _).mono ?_
      rintro e W1 ⟨rfl, bk⟩
      replace hb := hb.trans (bk.mono hb.size)
      clear bk CT
      go_wp2_with fail
      (try simp only [Exit.inBlock, Exit.then])
      exact bodyPost_ret (results_tmp4 rfl _ _ _) rfl ⟨by rw [HB.out.1, HB.out.2.1, HB.out.2.2.1, HB.out.2.2.2]; rfl, hb⟩
    · have d6 : decide ((s.size : Int) < 2 + (rdB s.data.toList 1 : Int)) = false := by simp; omega
      have HB := Lib.hid (rd_good s (by rw [rdE, if_neg n0, if_neg c1, if_neg n2, if_neg n3, if_neg (by omega), if_neg (by omega), if_neg (by omega)]))
      rw [hA, hN] at HB
      have w0 : IntKind.i64.wrap (rdB s.data.toList 0 : Int) = (rdB s.data.toList 0 : Int) := by rw [IntKind.wrap_i64]; omega
      have wn : IntKind.i64.wrap (2 + (rdB s.data.toList 1 : Int)) = 2 + (rdB s.data.toList 1 : Int) := by rw [IntKind.wrap_i64]; omega
      generalize rdB s.data.toList 0 = b0 at *
      generalize rdB s.data.toList 1 = b1 at *
      have f1 : ((2 : Int) + (b1 : Int)).toNat = 2 + b1 := by omega
      have f2 : (2 : Int) + (b1 : Int) ≤ (s.size : Int) := by omega
      have f3 : (2 : Int) ≤ (2 : Int) + (b1 : Int) := by omega
      have f4 : (0 : Int) ≤ (2 : Int) + (b1 : Int) := by omega
      clear hl hs n0 n2 n3 c0 c1 c2 c3 c4 c5 c6 hA hN
      go_enter Tryz.func135, Tryz.ntmps135
      go_wp2_with fail
      refine (CT.out _).mono ?_
      rintro e W1 ⟨rfl, bk⟩
      replace hb := hb.trans (bk.mono hb.size)
      clear bk CT
      go_wp2_with fail
      refine wp_region_fresh 17 84 [.val (.string s) [(0, .string s)], .val (.int .u8 (b0 : Int)) [(70, .string s)], .val (.int .i64 (b0 : Int)) [(71, .int .u8 (b0 : Int))], .val (.string s) [(0, .string s)], .val (.int .i64 2) [(7, .int .i64 2)], .val (.int .i64 2) [(7, .int .i64 2)], .val (.int .i64 ((b1 : Int))) [(6, .int .i64 ((b1 : Int)))], .val (.int .i64 (2 + (b1 : Int))) [(75, .int .i64 2), (76, .int .i64 ((b1 : Int)))], .val (.string (s.extract 2 (2 + b1))) [(73, .string s), (74, .int .i64 2), (77, .int .i64 (2 + (b1 : Int)))], .val (.string s) [(0, .string s)], .val (.int .i64 2) [(7, .int .i64 2)], .val (.int .i64 ((b1 : Int))) [(6, .int .i64 ((b1 : Int)))], .val (.int .i64 (2 + (b1 : Int))) [(80, .int .i64 2), (81, .int .i64 ((b1 : Int)))], .val (.string (s.extract (2 + b1) s.size)) [(79, .string s), (82, .int .i64 (2 + (b1 : Int)))], .val (.int .i64 (b0 : Int)) [(72, .int .i64 (b0 : Int))], .val (.string (s.extract 2 (2 + b1))) [(78, .string (s.extract 2 (2 + b1)))], .val (.string (s.extract (2 + b1) s.size)) [(83, .string (s.extract (2 + b1) s.size))]] (by kernel_rfl) (by kernel_rfl) rfl ?_ ?_ ?_
      · simp only [List.take_succ_cons, List.take_zero, headObl, specObl, HeadSpec.val, HeadSpec.fresh, and_true]
        refine ⟨?_, ?_, ?_, ?_, ?_, ?_, ?_, ?_, ?_, ?_, ?_, ?_, ?_, ?_, ?_, ?_, ?_⟩
        · intro act w hb h
          have e0 := h (0, .string s) (by simp)
          simp only [Array.getD_eq_getD_getElem?] at e0
          simp [go_sem, e0, sQuiet]
        · intro act w hb h
          have e0 := h (70, .string s) (by simp)
          simp only [Array.getD_eq_getD_getElem?] at e0
          simp [go_sem, e0, sQuiet, hi0, hl0, t0]
        · intro act w hb h
          have e0 := h (71, .int .u8 (b0 : Int)) (by simp)
          simp only [Array.getD_eq_getD_getElem?] at e0
          simp [go_sem, e0, sQuiet, w0]
        · intro act w hb h
          have e0 := h (0, .string s) (by simp)
          simp only [Array.getD_eq_getD_getElem?] at e0
          simp [go_sem, e0, sQuiet]
        · intro act w hb h
          have e0 := h (7, .int .i64 2) (by simp)
          simp only [Array.getD_eq_getD_getElem?] at e0
          simp [go_sem, e0, sQuiet]
        · intro act w hb h
          have e0 := h (7, .int .i64 2) (by simp)
          simp only [Array.getD_eq_getD_getElem?] at e0
          simp [go_sem, e0, sQuiet]
        · intro act w hb h
          have e0 := h (6, .int .i64 ((b1 : Int))) (by simp)
          simp only [Array.getD_eq_getD_getElem?] at e0
          simp [go_sem, e0, sQuiet]
        · intro act w hb h
          have e0 := h (75, .int .i64 2) (by simp)
          have e1 := h (76, .int .i64 ((b1 : Int))) (by simp)
          simp only [Array.getD_eq_getD_getElem?] at e0 e1
          simp [go_sem, e0, e1, sQuiet, wn]
        · intro act w hb h
          have e0 := h (73, .string s) (by simp)
          have e1 := h (74, .int .i64 2) (by simp)
          have e2 := h (77, .int .i64 (2 + (b1 : Int))) (by simp)
          simp only [Array.getD_eq_getD_getElem?] at e0 e1 e2
          simp [go_sem, e0, e1, e2, sQuiet, f1, f2, f3, f4]
        · intro act w hb h
          have e0 := h (0, .string s) (by simp)
          simp only [Array.getD_eq_getD_getElem?] at e0
          simp [go_sem, e0, sQuiet]
        · intro act w hb h
          have e0 := h (7, .int .i64 2) (by simp)
          simp only [Array.getD_eq_getD_getElem?] at e0
          simp [go_sem, e0, sQuiet]
        · intro act w hb h
          have e0 := h (6, .int .i64 ((b1 : Int))) (by simp)
          simp only [Array.getD_eq_getD_getElem?] at e0
          simp [go_sem, e0, sQuiet]
        · intro act w hb h
          have e0 := h (80, .int .i64 2) (by simp)
          have e1 := h (81, .int .i64 ((b1 : Int))) (by simp)
          simp only [Array.getD_eq_getD_getElem?] at e0 e1
          simp [go_sem, e0, e1, sQuiet, wn]
        · intro act w hb h
          have e0 := h (79, .string s) (by simp)
          have e1 := h (82, .int .i64 (2 + (b1 : Int))) (by simp)
          simp only [Array.getD_eq_getD_getElem?] at e0 e1
          simp [go_sem, e0, e1, sQuiet, f1, f2, f4]
        · intro act w hb h
          have e0 := h (72, .int .i64 (b0 : Int)) (by simp)
          simp only [Array.getD_eq_getD_getElem?] at e0
          simp [go_sem, e0, sQuiet]
        · intro act w hb h
          have e0 := h (78, .string (s.extract 2 (2 + b1))) (by simp)
          simp only [Array.getD_eq_getD_getElem?] at e0
          simp [go_sem, e0, sQuiet]
        · intro act w hb h
          have e0 := h (83, .string (s.extract (2 + b1) s.size)) (by simp)
          simp only [Array.getD_eq_getD_getElem?] at e0
          simp [go_sem, e0, sQuiet]
      · simp [headReads, headPut, specV, HeadSpec.val, HeadSpec.fresh, Act.put]
      · simp only [List.take_succ_cons, List.take_zero, List.drop_succ_cons, List.drop_zero, headEnd, HeadSpec.val, HeadSpec.fresh, Act.put, List.setIfInBounds_toArray, List.set_cons_succ, List.set_cons_zero]
        intro X hx _
        go_wp2_with fail
        (try simp only [Exit.inBlock, Exit.then])
        exact bodyPost_ret (results_tmp4 rfl _ _ _) rfl ⟨by rw [HB.out.1, HB.out.2.1, HB.out.2.2.1, HB.out.2.2.2]; rfl, hb.trans (hx.mono hb.size)⟩
  by_cases c7 : rdB s.data.toList 1 = 129
  · have hA : rdA s.data.toList = 3 := by rw [rdA, if_pos (by omega)]; omega
    replace t1 : ∀ k : 1 < s.size, ((s[1]'k).toNat : Int) = 129 := fun k => by rw [t1 k, c7]; rfl
    have hN : rdN s.data.toList = rdB s.data.toList 2 := by rw [rdN, if_pos c7]
    by_cases c6 : s.size < 3
    · have d6 : decide ((s.size : Int) < 3) = true := by simp; omega
      have HB := Lib.hid (rd_bad s 10 (by rw [rdE, if_neg n0, if_neg c1, if_neg n2, if_neg n3, if_pos (by omega)]) (by decide))
      generalize rdB s.data.toList 0 = b0 at *
      clear hl hs n0 n2 n3 c0 c1 c2 c3 c4 c5 c7 hA hN d3 d4 c6
      go_enter Tryz.func135, Tryz.ntmps135
      go_wp2_with fail
      refine (CT.out _).mono ?_
      rintro e W1 ⟨rfl, bk⟩
      replace hb := hb.trans (bk.mono hb.size)
      clear bk CT
      go_wp2_with fail
      (try simp only [Exit.inBlock, Exit.then])
      exact bodyPost_ret (results_tmp4 rfl _ _ _) rfl ⟨by rw [HB.out.1, HB.out.2.1, HB.out.2.2.1, HB.out.2.2.2]; rfl, hb⟩
    have d6 : decide ((s.size : Int) < 3) = false := by simp; omega
    have hl2 : 2 < s.size := by omega
    have hi2 : (2 : Int) < (s.size : Int) := by omega
    have t2 := rd_at s 2 hl2
    have h2 := rdB_lt s.data.toList 2
    by_cases c8 : rdB s.data.toList 2 < 128
    · have d8 : decide ((rdB s.data.toList 2 : Int) < 128) = true := by simp; omega
      have HB := Lib.hid (rd_bad s 11 (by rw [rdE, if_neg n0, if_neg c1, if_neg n2, if_neg n3, if_neg (by omega), if_pos (.inl ⟨c7, by omega⟩)]) (by decide))
      generalize rdB s.data.toList 0 = b0 at *
      generalize rdB s.data.toList 2 = b2 at *
      clear hl hs n0 n2 n3 c0 c1 c2 c3 c4 c5 c7 hA hN d3 d4 c6 c8
      go_enter Tryz.func135, Tryz.ntmps135
      go_wp2_with fail
      refine (CT.out _).mono ?_
      rintro e W1 ⟨rfl, bk⟩
      replace hb := hb.trans (bk.mono hb.size)
      clear bk CT
      go_wp2_with fail
      (try simp only [Exit.inBlock, Exit.then])
      exact bodyPost_ret (results_tmp4 rfl _ _ _) rfl ⟨by rw [HB.out.1, HB.out.2.1, HB.out.2.2.1, HB.out.2.2.2]; rfl, hb⟩
    have d8 : decide ((rdB s.data.toList 2 : Int) < 128) = false := by simp; omega
    by_cases c9 : s.size < 3 + rdB s.data.toList 2
    · have d9 : decide ((s.size : Int) < 3 + (rdB s.data.toList 2 : Int)) = true := by simp; omega
      have HB := Lib.hid (rd_bad s 10 (by rw [rdE, if_neg n0, if_neg c1, if_neg n2, if_neg n3, if_neg (by omega), if_neg (by omega), if_pos (by omega)]) (by decide))
      generalize rdB s.data.toList 0 = b0 at *
      generalize rdB s.data.toList 2 = b2 at *
      clear hl hs n0 n2 n3 c0 c1 c2 c3 c4 c5 c7 hA hN d3 d4 c6 c8 c9
      go_enter Tryz.func135, Tryz.ntmps135
      go_wp2_with fail
      refine (CT.out _).mono ?_
      rintro e W1 ⟨rfl, bk⟩
      replace hb := hb.trans (bk.mono hb.size)
      clear bk CT
      go_wp2_with fail
      (try simp only [Exit.inBlock, Exit.then])
      exact bodyPost_ret (results_tmp4 rfl _ _ _) rfl ⟨by rw [HB.out.1, HB.out.2.1, HB.out.2.2.1, HB.out.2.2.2]; rfl, hb⟩
    have d9 : decide ((s.size : Int) < 3 + (rdB s.data.toList 2 : Int)) = false := by simp; omega
    have HB := Lib.hid (rd_good s (by rw [rdE, if_neg n0, if_neg c1, if_neg n2, if_neg n3, if_neg (by omega), if_neg (by omega), if_neg (by omega)]))
    rw [hA, hN] at HB
    have w0 : IntKind.i64.wrap (rdB s.data.toList 0 : Int) = (rdB s.data.toList 0 : Int) := by rw [IntKind.wrap_i64]; omega
    have wn : IntKind.i64.wrap (3 + (rdB s.data.toList 2 : Int)) = 3 + (rdB s.data.toList 2 : Int) := by rw [IntKind.wrap_i64]; omega
    generalize rdB s.data.toList 0 = b0 at *
    generalize rdB s.data.toList 2 = b2 at *
    have f1 : ((3 : Int) + (b2 : Int)).toNat = 3 + b2 := by omega
    have f2 : (3 : Int) + (b2 : Int) ≤ (s.size : Int) := by omega
    have f3 : (3 : Int) ≤ (3 : Int) + (b2 : Int) := by omega
    have f4 : (0 : Int) ≤ (3 : Int) + (b2 : Int) := by omega
    clear hl hs n0 n2 n3 c0 c1 c2 c3 c4 c5 c7 hA hN d3 d4 c6 c8 c9
    go_enter Tryz.func135, Tryz.ntmps135
    go_wp2_with fail
    refine (CT.out _).mono ?_
    rintro e W1 ⟨rfl, bk⟩
    replace hb := hb.trans (bk.mono hb.size)
    clear bk CT
    go_wp2_with fail
    refine wp_region_fresh 17 84 [.val (.string s) [(0, .string s)], .val (.int .u8 (b0 : Int)) [(70, .string s)], .val (.int .i64 (b0 : Int)) [(71, .int .u8 (b0 : Int))], .val (.string s) [(0, .string s)], .val (.int .i64 3) [(7, .int .i64 3)], .val (.int .i64 3) [(7, .int .i64 3)], .val (.int .i64 ((b2 : Int))) [(6, .int .i64 ((b2 : Int)))], .val (.int .i64 (3 + (b2 : Int))) [(75, .int .i64 3), (76, .int .i64 ((b2 : Int)))], .val (.string (s.extract 3 (3 + b2))) [(73, .string s), (74, .int .i64 3), (77, .int .i64 (3 + (b2 : Int)))], .val (.string s) [(0, .string s)], .val (.int .i64 3) [(7, .int .i64 3)], .val (.int .i64 ((b2 : Int))) [(6, .int .i64 ((b2 : Int)))], .val (.int .i64 (3 + (b2 : Int))) [(80, .int .i64 3), (81, .int .i64 ((b2 : Int)))], .val (.string (s.extract (3 + b2) s.size)) [(79, .string s), (82, .int .i64 (3 + (b2 : Int)))], .val (.int .i64 (b0 : Int)) [(72, .int .i64 (b0 : Int))], .val (.string (s.extract 3 (3 + b2))) [(78, .string (s.extract 3 (3 + b2)))], .val (.string (s.extract (3 + b2) s.size)) [(83, .string (s.extract (3 + b2) s.size))]] (by kernel_rfl) (by kernel_rfl) rfl ?_ ?_ ?_
    · simp only [List.take_succ_cons, List.take_zero, headObl, specObl, HeadSpec.val, HeadSpec.fresh, and_true]
      refine ⟨?_, ?_, ?_, ?_, ?_, ?_, ?_, ?_, ?_, ?_, ?_, ?_, ?_, ?_, ?_, ?_, ?_⟩
      · intro act w hb h
        have e0 := h (0, .string s) (by simp)
        simp only [Array.getD_eq_getD_getElem?] at e0
        simp [go_sem, e0, sQuiet]
      · intro act w hb h
        have e0 := h (70, .string s) (by simp)
        simp only [Array.getD_eq_getD_getElem?] at e0
        simp [go_sem, e0, sQuiet, hi0, hl0, t0]
      · intro act w hb h
        have e0 := h (71, .int .u8 (b0 : Int)) (by simp)
        simp only [Array.getD_eq_getD_getElem?] at e0
        simp [go_sem, e0, sQuiet, w0]
      · intro act w hb h
        have e0 := h (0, .string s) (by simp)
        simp only [Array.getD_eq_getD_getElem?] at e0
        simp [go_sem, e0, sQuiet]
      · intro act w hb h
        have e0 := h (7, .int .i64 3) (by simp)
        simp only [Array.getD_eq_getD_getElem?] at e0
        simp [go_sem, e0, sQuiet]
      · intro act w hb h
        have e0 := h (7, .int .i64 3) (by simp)
        simp only [Array.getD_eq_getD_getElem?] at e0
        simp [go_sem, e0, sQuiet]
      · intro act w hb h
        have e0 := h (6, .int .i64 ((b2 : Int))) (by simp)
        simp only [Array.getD_eq_getD_getElem?] at e0
        simp [go_sem, e0, sQuiet]
      · intro act w hb h
        have e0 := h (75, .int .i64 3) (by simp)
        have e1 := h (76, .int .i64 ((b2 : Int))) (by simp)
        simp only [Array.getD_eq_getD_getElem?] at e0 e1
        simp [go_sem, e0, e1, sQuiet, wn]
      · intro act w hb h
        have e0 := h (73, .string s) (by simp)
        have e1 := h (74, .int .i64 3) (by simp)
        have e2 := h (77, .int .i64 (3 + (b2 : Int))) (by simp)
        simp only [Array.getD_eq_getD_getElem?] at e0 e1 e2
        simp [go_sem, e0, e1, e2, sQuiet, f1, f2, f3, f4]
      · intro act w hb h
        have e0 := h (0, .string s) (by simp)
        simp only [Array.getD_eq_getD_getElem?] at e0
        simp [go_sem, e0, sQuiet]
      · intro act w hb h
        have e0 := h (7, .int .i64 3) (by simp)
        simp only [Array.getD_eq_getD_getElem?] at e0
        simp [go_sem, e0, sQuiet]
      · intro act w hb h
        have e0 := h (6, .int .i64 ((b2 : Int))) (by simp)
        simp only [Array.getD_eq_getD_getElem?] at e0
        simp [go_sem, e0, sQuiet]
      · intro act w hb h
        have e0 := h (80, .int .i64 3) (by simp)
        have e1 := h (81, .int .i64 ((b2 : Int))) (by simp)
        simp only [Array.getD_eq_getD_getElem?] at e0 e1
        simp [go_sem, e0, e1, sQuiet, wn]
      · intro act w hb h
        have e0 := h (79, .string s) (by simp)
        have e1 := h (82, .int .i64 (3 + (b2 : Int))) (by simp)
        simp only [Array.getD_eq_getD_getElem?] at e0 e1
        simp [go_sem, e0, e1, sQuiet, f1, f2, f4]
      · intro act w hb h
        have e0 := h (72, .int .i64 (b0 : Int)) (by simp)
        simp only [Array.getD_eq_getD_getElem?] at e0
        simp [go_sem, e0, sQuiet]
      · intro act w hb h
        have e0 := h (78, .string (s.extract 3 (3 + b2))) (by simp)
        simp only [Array.getD_eq_getD_getElem?] at e0
        simp [go_sem, e0, sQuiet]
      · intro act w hb h
        have e0 := h (83, .string (s.extract (3 + b2) s.size)) (by simp)
        simp only [Array.getD_eq_getD_getElem?] at e0
        simp [go_sem, e0, sQuiet]
    · simp [headReads, headPut, specV, HeadSpec.val, HeadSpec.fresh, Act.put]
    · simp only [List.take_succ_cons, List.take_zero, List.drop_succ_cons, List.drop_zero, headEnd, HeadSpec.val, HeadSpec.fresh, Act.put, List.setIfInBounds_toArray, List.set_cons_succ, List.set_cons_zero]
      intro X hx _
      go_wp2_with fail
      (try simp only [Exit.inBlock, Exit.then])
      exact bodyPost_ret (results_tmp4 rfl _ _ _) rfl ⟨by rw [HB.out.1, HB.out.2.1, HB.out.2.2.1, HB.out.2.2.2]; rfl, hb.trans (hx.mono hb.size)⟩
  have c7 : rdB s.data.toList 1 = 130 := by omega
  have hA : rdA s.data.toList = 4 := by rw [rdA, if_pos (by omega)]; omega
  replace t1 : ∀ k : 1 < s.size, ((s[1]'k).toNat : Int) = 130 := fun k => by rw [t1 k, c7]; rfl
  have hN : rdN s.data.toList = 256 * rdB s.data.toList 2 + rdB s.data.toList 3 := by rw [rdN, if_neg (by omega), if_pos c7]
  by_cases c6 : s.size < 4
  · have d6 : decide ((s.size : Int) < 4) = true := by simp; omega
    have HB := Lib.hid (rd_bad s 10 (by rw [rdE, if_neg n0, if_neg c1, if_neg n2, if_neg n3, if_pos (by omega)]) (by decide))
    generalize rdB s.data.toList 0 = b0 at *
    clear hl hs n0 n2 n3 c0 c1 c2 c3 c4 c5 c7 hA hN d3 d4 c6
    go_enter Tryz.func135, Tryz.ntmps135
    go_wp2_with fail
    refine (CT.out _).mono ?_
    rintro e W1 ⟨rfl, bk⟩
    replace hb := hb.trans (bk.mono hb.size)
    clear bk CT
    go_wp2_with fail
    (try simp only [Exit.inBlock, Exit.then])
    exact bodyPost_ret (results_tmp4 rfl _ _ _) rfl ⟨by rw [HB.out.1, HB.out.2.1, HB.out.2.2.1, HB.out.2.2.2]; rfl, hb⟩
  have d6 : decide ((s.size : Int) < 4) = false := by simp; omega
  have hl2 : 2 < s.size := by omega
  have hi2 : (2 : Int) < (s.size : Int) := by omega
  have t2 := rd_at s 2 hl2
  have h2 := rdB_lt s.data.toList 2
  have hl3 : 3 < s.size := by omega
  have hi3 : (3 : Int) < (s.size : Int) := by omega
  have t3 := rd_at s 3 hl3
  have h3 := rdB_lt s.data.toList 3
  have wm : IntKind.i64.wrap (256 * (rdB s.data.toList 2 : Int)) = 256 * (rdB s.data.toList 2 : Int) := by rw [IntKind.wrap_i64]; omega
  have wk : IntKind.i64.wrap (256 * (rdB s.data.toList 2 : Int) + (rdB s.data.toList 3 : Int)) = 256 * (rdB s.data.toList 2 : Int) + (rdB s.data.toList 3 : Int) := by rw [IntKind.wrap_i64]; omega
  by_cases c8 : (256 * rdB s.data.toList 2 + rdB s.data.toList 3) < 256
  · have d8 : decide ((256 * (rdB s.data.toList 2 : Int) + (rdB s.data.toList 3 : Int)) < 256) = true := by simp; omega
    have HB := Lib.hid (rd_bad s 11 (by rw [rdE, if_neg n0, if_neg c1, if_neg n2, if_neg n3, if_neg (by omega), if_pos (.inr ⟨c7, by omega⟩)]) (by decide))
    generalize rdB s.data.toList 0 = b0 at *
    generalize rdB s.data.toList 2 = b2 at *
    generalize rdB s.data.toList 3 = b3 at *
    clear hl hs n0 n2 n3 c0 c1 c2 c3 c4 c5 c7 hA hN d3 d4 c6 c8
    go_enter Tryz.func135, Tryz.ntmps135
    go_wp2_with fail
    refine (CT.out _).mono ?_
    rintro e W1 ⟨rfl, bk⟩
    replace hb := hb.trans (bk.mono hb.size)
    clear bk CT
    go_wp2_with fail
    (try simp only [Exit.inBlock, Exit.then])
    exact bodyPost_ret (results_tmp4 rfl _ _ _) rfl ⟨by rw [HB.out.1, HB.out.2.1, HB.out.2.2.1, HB.out.2.2.2]; rfl, hb⟩
  have d8 : decide ((256 * (rdB s.data.toList 2 : Int) + (rdB s.data.toList 3 : Int)) < 256) = false := by simp; omega
  by_cases c9 : s.size < 4 + (256 * rdB s.data.toList 2 + rdB s.data.toList 3)
  · have d9 : decide ((s.size : Int) < 4 + (256 * (rdB s.data.toList 2 : Int) + (rdB s.data.toList 3 : Int))) = true := by simp; omega
    have HB := Lib.hid (rd_bad s 10 (by rw [rdE, if_neg n0, if_neg c1, if_neg n2, if_neg n3, if_neg (by omega), if_neg (by omega), if_pos (by omega)]) (by decide))
    generalize rdB s.data.toList 0 = b0 at *
    generalize rdB s.data.toList 2 = b2 at *
    generalize rdB s.data.toList 3 = b3 at *
    clear hl hs n0 n2 n3 c0 c1 c2 c3 c4 c5 c7 hA hN d3 d4 c6 c8 c9
    go_enter Tryz.func135, Tryz.ntmps135
    go_wp2_with fail
    refine (CT.out _).mono ?_
    rintro e W1 ⟨rfl, bk⟩
    replace hb := hb.trans (bk.mono hb.size)
    clear bk CT
    go_wp2_with fail
    (try simp only [Exit.inBlock, Exit.then])
    exact bodyPost_ret (results_tmp4 rfl _ _ _) rfl ⟨by rw [HB.out.1, HB.out.2.1, HB.out.2.2.1, HB.out.2.2.2]; rfl, hb⟩
  have d9 : decide ((s.size : Int) < 4 + (256 * (rdB s.data.toList 2 : Int) + (rdB s.data.toList 3 : Int))) = false := by simp; omega
  have HB := Lib.hid (rd_good s (by rw [rdE, if_neg n0, if_neg c1, if_neg n2, if_neg n3, if_neg (by omega), if_neg (by omega), if_neg (by omega)]))
  rw [hA, hN] at HB
  have w0 : IntKind.i64.wrap (rdB s.data.toList 0 : Int) = (rdB s.data.toList 0 : Int) := by rw [IntKind.wrap_i64]; omega
  have wn : IntKind.i64.wrap (4 + (256 * (rdB s.data.toList 2 : Int) + (rdB s.data.toList 3 : Int))) = 4 + (256 * (rdB s.data.toList 2 : Int) + (rdB s.data.toList 3 : Int)) := by rw [IntKind.wrap_i64]; omega
  generalize rdB s.data.toList 0 = b0 at *
  generalize rdB s.data.toList 2 = b2 at *
  generalize rdB s.data.toList 3 = b3 at *
  have f1 : ((4 : Int) + (256 * (b2 : Int) + (b3 : Int))).toNat = 4 + (256 * b2 + b3) := by omega
  have f2 : (4 : Int) + (256 * (b2 : Int) + (b3 : Int)) ≤ (s.size : Int) := by omega
  have f3 : (4 : Int) ≤ (4 : Int) + (256 * (b2 : Int) + (b3 : Int)) := by omega
  have f4 : (0 : Int) ≤ (4 : Int) + (256 * (b2 : Int) + (b3 : Int)) := by omega
  clear hl hs n0 n2 n3 c0 c1 c2 c3 c4 c5 c7 hA hN d3 d4 c6 c8 c9
  go_enter Tryz.func135, Tryz.ntmps135
  go_wp2_with fail
  refine (CT.out _).mono ?_
  rintro e W1 ⟨rfl, bk⟩
  replace hb := hb.trans (bk.mono hb.size)
  clear bk CT
  go_wp2_with fail
  refine wp_region_fresh 17 84 [.val (.string s) [(0, .string s)], .val (.int .u8 (b0 : Int)) [(70, .string s)], .val (.int .i64 (b0 : Int)) [(71, .int .u8 (b0 : Int))], .val (.string s) [(0, .string s)], .val (.int .i64 4) [(7, .int .i64 4)], .val (.int .i64 4) [(7, .int .i64 4)], .val (.int .i64 ((256 * (b2 : Int) + (b3 : Int)))) [(6, .int .i64 ((256 * (b2 : Int) + (b3 : Int))))], .val (.int .i64 (4 + (256 * (b2 : Int) + (b3 : Int)))) [(75, .int .i64 4), (76, .int .i64 ((256 * (b2 : Int) + (b3 : Int))))], .val (.string (s.extract 4 (4 + (256 * b2 + b3)))) [(73, .string s), (74, .int .i64 4), (77, .int .i64 (4 + (256 * (b2 : Int) + (b3 : Int))))], .val (.string s) [(0, .string s)], .val (.int .i64 4) [(7, .int .i64 4)], .val (.int .i64 ((256 * (b2 : Int) + (b3 : Int)))) [(6, .int .i64 ((256 * (b2 : Int) + (b3 : Int))))], .val (.int .i64 (4 + (256 * (b2 : Int) + (b3 : Int)))) [(80, .int .i64 4), (81, .int .i64 ((256 * (b2 : Int) + (b3 : Int))))], .val (.string (s.extract (4 + (256 * b2 + b3)) s.size)) [(79, .string s), (82, .int .i64 (4 + (256 * (b2 : Int) + (b3 : Int))))], .val (.int .i64 (b0 : Int)) [(72, .int .i64 (b0 : Int))], .val (.string (s.extract 4 (4 + (256 * b2 + b3)))) [(78, .string (s.extract 4 (4 + (256 * b2 + b3))))], .val (.string (s.extract (4 + (256 * b2 + b3)) s.size)) [(83, .string (s.extract (4 + (256 * b2 + b3)) s.size))]] (by kernel_rfl) (by kernel_rfl) rfl ?_ ?_ ?_
  · simp only [List.take_succ_cons, List.take_zero, headObl, specObl, HeadSpec.val, HeadSpec.fresh, and_true]
    refine ⟨?_, ?_, ?_, ?_, ?_, ?_, ?_, ?_, ?_, ?_, ?_, ?_, ?_, ?_, ?_, ?_, ?_⟩
    · intro act w hb h
      have e0 := h (0, .string s) (by simp)
      simp only [Array.getD_eq_getD_getElem?] at e0
      simp [go_sem, e0, sQuiet]
    · intro act w hb h
      have e0 := h (70, .string s) (by simp)
      simp only [Array.getD_eq_getD_getElem?] at e0
      simp [go_sem, e0, sQuiet, hi0, hl0, t0]
    · intro act w hb h
      have e0 := h (71, .int .u8 (b0 : Int)) (by simp)
      simp only [Array.getD_eq_getD_getElem?] at e0
      simp [go_sem, e0, sQuiet, w0]
    · intro act w hb h
      have e0 := h (0, .string s) (by simp)
      simp only [Array.getD_eq_getD_getElem?] at e0
      simp [go_sem, e0, sQuiet]
    · intro act w hb h
      have e0 := h (7, .int .i64 4) (by simp)
      simp only [Array.getD_eq_getD_getElem?] at e0
      simp [go_sem, e0, sQuiet]
    · intro act w hb h
      have e0 := h (7, .int .i64 4) (by simp)
      simp only [Array.getD_eq_getD_getElem?] at e0
      simp [go_sem, e0, sQuiet]
    · intro act w hb h
      have e0 := h (6, .int .i64 ((256 * (b2 : Int) + (b3 : Int)))) (by simp)
      simp only [Array.getD_eq_getD_getElem?] at e0
      simp [go_sem, e0, sQuiet]
    · intro act w hb h
      have e0 := h (75, .int .i64 4) (by simp)
      have e1 := h (76, .int .i64 ((256 * (b2 : Int) + (b3 : Int)))) (by simp)
      simp only [Array.getD_eq_getD_getElem?] at e0 e1
      simp [go_sem, e0, e1, sQuiet, wn]
    · intro act w hb h
      have e0 := h (73, .string s) (by simp)
      have e1 := h (74, .int .i64 4) (by simp)
      have e2 := h (77, .int .i64 (4 + (256 * (b2 : Int) + (b3 : Int)))) (by simp)
      simp only [Array.getD_eq_getD_getElem?] at e0 e1 e2
      simp [go_sem, e0, e1, e2, sQuiet, f1, f2, f3, f4]
    · intro act w hb h
      have e0 := h (0, .string s) (by simp)
      simp only [Array.getD_eq_getD_getElem?] at e0
      simp [go_sem, e0, sQuiet]
    · intro act w hb h
      have e0 := h (7, .int .i64 4) (by simp)
      simp only [Array.getD_eq_getD_getElem?] at e0
      simp [go_sem, e0, sQuiet]
    · intro act w hb h
      have e0 := h (6, .int .i64 ((256 * (b2 : Int) + (b3 : Int)))) (by simp)
      simp only [Array.getD_eq_getD_getElem?] at e0
      simp [go_sem, e0, sQuiet]
    · intro act w hb h
      have e0 := h (80, .int .i64 4) (by simp)
      have e1 := h (81, .int .i64 ((256 * (b2 : Int) + (b3 : Int)))) (by simp)
      simp only [Array.getD_eq_getD_getElem?] at e0 e1
      simp [go_sem, e0, e1, sQuiet, wn]
    · intro act w hb h
      have e0 := h (79, .string s) (by simp)
      have e1 := h (82, .int .i64 (4 + (256 * (b2 : Int) + (b3 : Int)))) (by simp)
      simp only [Array.getD_eq_getD_getElem?] at e0 e1
      simp [go_sem, e0, e1, sQuiet, f1, f2, f4]
    · intro act w hb h
      have e0 := h (72, .int .i64 (b0 : Int)) (by simp)
      simp only [Array.getD_eq_getD_getElem?] at e0
      simp [go_sem, e0, sQuiet]
    · intro act w hb h
      have e0 := h (78, .string (s.extract 4 (4 + (256 * b2 + b3)))) (by simp)
      simp only [Array.getD_eq_getD_getElem?] at e0
      simp [go_sem, e0, sQuiet]
    · intro act w hb h
      have e0 := h (83, .string (s.extract (4 + (256 * b2 + b3)) s.size)) (by simp)
      simp only [Array.getD_eq_getD_getElem?] at e0
      simp [go_sem, e0, sQuiet]
  · simp [headReads, headPut, specV, HeadSpec.val, HeadSpec.fresh, Act.put]
  · simp only [List.take_succ_cons, List.take_zero, List.drop_succ_cons, List.drop_zero, headEnd, HeadSpec.val, HeadSpec.fresh, Act.put, List.setIfInBounds_toArray, List.set_cons_succ, List.set_cons_zero]
    intro X hx _
    go_wp2_with fail
    (try simp only [Exit.inBlock, Exit.then])
    exact bodyPost_ret (results_tmp4 rfl _ _ _) rfl ⟨by rw [HB.out.1, HB.out.2.1, HB.out.2.2.1, HB.out.2.2.2]; rfl, hb.trans (hx.mono hb.size)⟩
end

section
open Go.RowKit Go.Sort
set_option maxRecDepth 100000
set_option linter.unusedSimpArgs false
set_option linter.unusedVariables false

theorem row_news (W : World) (B : Nat) (t : TypeId) (l : List Value) (fr : Nat × Nat) (h : W.heap[B]? = some (.cells l.toArray t fr)) : ∀ j u, l[j]? = some u → W.cell? ((⟨B, 0, none⟩ : Addr).add j) = some u := fun j u hj => by
  have hadd : (⟨B, 0, none⟩ : Addr).add j = ⟨B, j, none⟩ := by unfold Addr.add; split <;> simp_all
  rw [hadd, cell_of_row W B _ _ t fr h]
  simpa using hj
theorem cell_byte (k : Nat) (h : k < 256) : ((UInt8.ofNat k).toNat : Int) = (k : Int) := by simp; omega
theorem wrShort_cells (a n : Nat) (ha : a < 256) (hn : n < 128) : [Value.int .u8 (a : Int)] ++ [.int .u8 (n : Int)] = Lib.byteCells (UInt8.ofNat a :: [UInt8.ofNat n]) := by
  have e0 := cell_byte a ha
  have e1 : ((UInt8.ofNat n).toNat : Int) = (n : Int) % 256 := by rw [UInt8.toNat_ofNat']; omega
  simp only [Lib.byteCells, List.map_cons, List.map_nil, List.cons_append, List.nil_append, e0, e1]
  rw [Int.emod_eq_of_lt (by omega) (by omega)]
set_option maxHeartbeats 2000000 in
theorem rwrShort_any (a : Nat) (b : ByteArray) (w : World) (ha : a < 256) (ht : isT (a : Int) = true) (hn : b.size < 128) :
    Calls Tryz.prog 117 #[.int .i64 (a : Int), .string b] w fun e w' => e = .returned (.tuple #[.string (⟨(UInt8.ofNat a :: [UInt8.ofNat b.size]).toArray⟩ ++ b), .int .i64 0]) ∧ Below w.heap.size w w' := by
  obtain ⟨i0, hi, hz0, hz1, hz2⟩ := info_parts info_u8
  have CT := Lib.hid (fun W => risTag_any (a : Int) W (by omega) (by omega))
  rw [ht] at CT
  have HC := Lib.hid (wrShort_cells a b.size ha hn)
  have d1 : decide ((65536 : Int) ≤ (b.size : Int)) = false := by simp; omega
  have d2 : decide ((b.size : Int) < 128) = true := by simp; omega
  have wt : IntKind.u8.wrap (a : Int) = (a : Int) := by rw [IntKind.wrap_u8]; omega
  have hsum : 2 + b.size ≤ 9223372036854775807 := by omega
  have hb := Below.refl w.heap.size w
  clear ht
  go_enter Tryz.func117, Tryz.ntmps117
  go_wp2_with fail
  refine (CT.out w).mono ?_
  rintro e W1 ⟨rfl, bk⟩
  replace hb := hb.trans (bk.mono hb.size)
  clear bk CT
  have hb1 : Below w.heap.size w (W1.alloc (.cells #[.int .u8 (a : Int)] 5)) := hb.alloc hb.size _
  have hsz1 : w.heap.size ≤ (W1.alloc (.cells #[.int .u8 (a : Int)] 5)).heap.size := hb1.size
  have HO0 := Lib.hid (show (W1.alloc (.cells #[.int .u8 (a : Int)] 5)).ownsRow W1.heap.size 5 1 (.slice (some ⟨W1.heap.size, 0, none⟩) 1 1) 1 [.int .u8 (a : Int)] from
    ⟨rfl, .inr ⟨W1.heap.size, 1, _, rfl, Nat.le_refl _, blk_new W1 _, by omega, by unfold maxLen; omega, rfl, rfl⟩⟩)
  have HO1 := Lib.hid (HO0.out.alloc (.cells #[.int .u8 (b.size : Int)] 5))
  have HN := Lib.hid (row_news _ (W1.heap.size + 1) 5 [.int .u8 (b.size : Int)] (0, 0) (blk_new2 W1 (.cells #[.int .u8 (a : Int)] 5) (.cells #[.int .u8 (b.size : Int)] 5)))
  have hb2 : Below w.heap.size w ((W1.alloc (.cells #[.int .u8 (a : Int)] 5)).alloc (.cells #[.int .u8 (b.size : Int)] 5)) := hb1.alloc hsz1 _
  have hW1 := hb.size
  go_wp2_with (at_builtin; refine wpList_append_own _ rfl (.tmp 20) (.tmp 23) 41 rfl W1.heap.size 5 i0 (.int .u8 0) 1 1 Tryz.underlying41 hi hz0 hz1 hz2 rfl (by omega) (.slice (some ⟨W1.heap.size, 0, none⟩) 1 1) 1 _ rfl HO1.out ⟨W1.heap.size + 1, 0, none⟩ 1 1 [.int .u8 (b.size : Int)] rfl rfl HN.out ?b2 ?b3 ?b4 ?b5 ?_)
  case b2 => intro u hu; simp at hu; (first | (subst hu; rfl) | (rcases hu with rfl | rfl <;> rfl) | (rcases hu with rfl | rfl | rfl <;> rfl))
  case b3 => unfold maxLen; omega
  case b4 => omega
  case b5 => simp; omega
  intro v1 W2 hown1 hgrow1 _
  have hb3 : Below w.heap.size w W2 := hb2.grown hgrow1 hb2.size (fun k hk => by have := (World.ownsRow.lt HO1.out k hk).1; omega)
  have hxs := own_of_row hown1
  have e3 := HC.out
  simp only [List.cons_append, List.nil_append] at e3 hxs
  rw [e3] at hxs
  obtain ⟨g, cp, rfl, hoG, _⟩ := hxs.1.some (by rw [Lib.byteCells_length]; simp)
  rw [Lib.byteCells_length]
  generalize hLL : (UInt8.ofNat a :: [UInt8.ofNat b.size]) = L at *
  have hcv := run_string_row W2 g cp L (fun j x hx => hoG.cells j _ (by simp [Lib.byteCells, hx]))
  clear hoG hxs hown1 hgrow1 e3 HC HO0 HO1 HN hb hb1 hb2
  have hsz : L.toArray.size = 2 := by rw [← hLL]; rfl
  have HLL := Lib.hid hLL
  clear hLL
  generalize hil : (⟨L.toArray⟩ : ByteArray) = il at *
  have HIL := Lib.hid hil
  have hsum2 : il.size + b.size ≤ 9223372036854775807 := by rw [← hil]; show L.toArray.size + b.size ≤ _; rw [hsz]; exact hsum
  clear hil hsz
  go_wp2_with fail
  go_ret2
  exact ⟨by rw [HLL.out, HIL.out]; rfl, hb3⟩
theorem wrMid_cells (a n : Nat) (ha : a < 256) (hn : 128 ≤ n ∧ n < 256) : [Value.int .u8 (a : Int)] ++ [.int .u8 129, .int .u8 (n : Int)] = Lib.byteCells (UInt8.ofNat a :: [129, UInt8.ofNat n]) := by
  have e0 := cell_byte a ha
  have e1 : ((UInt8.ofNat n).toNat : Int) = (n : Int) % 256 := by rw [UInt8.toNat_ofNat']; omega
  simp only [Lib.byteCells, List.map_cons, List.map_nil, List.cons_append, List.nil_append, e0, e1]
  rw [Int.emod_eq_of_lt (by omega) (by omega)]; rfl
set_option maxHeartbeats 2000000 in
theorem rwrMid_any (a : Nat) (b : ByteArray) (w : World) (ha : a < 256) (ht : isT (a : Int) = true) (hn : 128 ≤ b.size ∧ b.size < 256) :
    Calls Tryz.prog 117 #[.int .i64 (a : Int), .string b] w fun e w' => e = .returned (.tuple #[.string (⟨(UInt8.ofNat a :: [129, UInt8.ofNat b.size]).toArray⟩ ++ b), .int .i64 0]) ∧ Below w.heap.size w w' := by
  obtain ⟨i0, hi, hz0, hz1, hz2⟩ := info_parts info_u8
  have CT := Lib.hid (fun W => risTag_any (a : Int) W (by omega) (by omega))
  rw [ht] at CT
  have HC := Lib.hid (wrMid_cells a b.size ha hn)
  have d1 : decide ((65536 : Int) ≤ (b.size : Int)) = false := by simp; omega
  have d2 : decide ((b.size : Int) < 128) = false := by simp; omega
  have d3 : decide ((b.size : Int) < 256) = true := by simp; omega
  have wt : IntKind.u8.wrap (a : Int) = (a : Int) := by rw [IntKind.wrap_u8]; omega
  have hsum : 3 + b.size ≤ 9223372036854775807 := by omega
  have hb := Below.refl w.heap.size w
  clear ht
  go_enter Tryz.func117, Tryz.ntmps117
  go_wp2_with fail
  refine (CT.out w).mono ?_
  rintro e W1 ⟨rfl, bk⟩
  replace hb := hb.trans (bk.mono hb.size)
  clear bk CT
  have hb1 : Below w.heap.size w (W1.alloc (.cells #[.int .u8 (a : Int)] 5)) := hb.alloc hb.size _
  have hsz1 : w.heap.size ≤ (W1.alloc (.cells #[.int .u8 (a : Int)] 5)).heap.size := hb1.size
  have HO0 := Lib.hid (show (W1.alloc (.cells #[.int .u8 (a : Int)] 5)).ownsRow W1.heap.size 5 1 (.slice (some ⟨W1.heap.size, 0, none⟩) 1 1) 1 [.int .u8 (a : Int)] from
    ⟨rfl, .inr ⟨W1.heap.size, 1, _, rfl, Nat.le_refl _, blk_new W1 _, by omega, by unfold maxLen; omega, rfl, rfl⟩⟩)
  have HO1 := Lib.hid (HO0.out.alloc (.cells #[.int .u8 129, .int .u8 (b.size : Int)] 5))
  have HN := Lib.hid (row_news _ (W1.heap.size + 1) 5 [.int .u8 129, .int .u8 (b.size : Int)] (0, 0) (blk_new2 W1 (.cells #[.int .u8 (a : Int)] 5) (.cells #[.int .u8 129, .int .u8 (b.size : Int)] 5)))
  have hb2 : Below w.heap.size w ((W1.alloc (.cells #[.int .u8 (a : Int)] 5)).alloc (.cells #[.int .u8 129, .int .u8 (b.size : Int)] 5)) := hb1.alloc hsz1 _
  have hW1 := hb.size
  go_wp2_with (at_builtin; refine wpList_append_own _ rfl (.tmp 27) (.tmp 30) 41 rfl W1.heap.size 5 i0 (.int .u8 0) 1 1 Tryz.underlying41 hi hz0 hz1 hz2 rfl (by omega) (.slice (some ⟨W1.heap.size, 0, none⟩) 1 1) 1 _ rfl HO1.out ⟨W1.heap.size + 1, 0, none⟩ 2 2 [.int .u8 129, .int .u8 (b.size : Int)] rfl rfl HN.out ?b2 ?b3 ?b4 ?b5 ?_)
  case b2 => intro u hu; simp at hu; (first | (subst hu; rfl) | (rcases hu with rfl | rfl <;> rfl) | (rcases hu with rfl | rfl | rfl <;> rfl))
  case b3 => unfold maxLen; omega
  case b4 => omega
  case b5 => simp; omega
  intro v1 W2 hown1 hgrow1 _
  have hb3 : Below w.heap.size w W2 := hb2.grown hgrow1 hb2.size (fun k hk => by have := (World.ownsRow.lt HO1.out k hk).1; omega)
  have hxs := own_of_row hown1
  have e3 := HC.out
  simp only [List.cons_append, List.nil_append] at e3 hxs
  rw [e3] at hxs
  obtain ⟨g, cp, rfl, hoG, _⟩ := hxs.1.some (by rw [Lib.byteCells_length]; simp)
  rw [Lib.byteCells_length]
  generalize hLL : (UInt8.ofNat a :: [129, UInt8.ofNat b.size]) = L at *
  have hcv := run_string_row W2 g cp L (fun j x hx => hoG.cells j _ (by simp [Lib.byteCells, hx]))
  clear hoG hxs hown1 hgrow1 e3 HC HO0 HO1 HN hb hb1 hb2
  have hsz : L.toArray.size = 3 := by rw [← hLL]; rfl
  have HLL := Lib.hid hLL
  clear hLL
  generalize hil : (⟨L.toArray⟩ : ByteArray) = il at *
  have HIL := Lib.hid hil
  have hsum2 : il.size + b.size ≤ 9223372036854775807 := by rw [← hil]; show L.toArray.size + b.size ≤ _; rw [hsz]; exact hsum
  clear hil hsz
  go_wp2_with fail
  go_ret2
  exact ⟨by rw [HLL.out, HIL.out]; rfl, hb3⟩
theorem wrLong_cells (a n : Nat) (ha : a < 256) (hn : 256 ≤ n ∧ n < 65536) : [Value.int .u8 (a : Int)] ++ [.int .u8 130, .int .u8 ((n : Int) / 256), .int .u8 ((n : Int) % 256)] = Lib.byteCells (UInt8.ofNat a :: [130, UInt8.ofNat (n / 256), UInt8.ofNat n]) := by
  have e0 := cell_byte a ha
  have e1 : ((UInt8.ofNat n).toNat : Int) = (n : Int) % 256 := by rw [UInt8.toNat_ofNat']; omega
  simp only [Lib.byteCells, List.map_cons, List.map_nil, List.cons_append, List.nil_append, e0, e1]
  rw [cell_byte (n / 256) (by omega)]; rfl
set_option maxHeartbeats 2000000 in
theorem rwrLong_any (a : Nat) (b : ByteArray) (w : World) (ha : a < 256) (ht : isT (a : Int) = true) (hn : 256 ≤ b.size ∧ b.size < 65536) :
    Calls Tryz.prog 117 #[.int .i64 (a : Int), .string b] w fun e w' => e = .returned (.tuple #[.string (⟨(UInt8.ofNat a :: [130, UInt8.ofNat (b.size / 256), UInt8.ofNat b.size]).toArray⟩ ++ b), .int .i64 0]) ∧ Below w.heap.size w w' := by
  obtain ⟨i0, hi, hz0, hz1, hz2⟩ := info_parts info_u8
  have CT := Lib.hid (fun W => risTag_any (a : Int) W (by omega) (by omega))
  rw [ht] at CT
  have HC := Lib.hid (wrLong_cells a b.size ha hn)
  have d1 : decide ((65536 : Int) ≤ (b.size : Int)) = false := by simp; omega
  have d2 : decide ((b.size : Int) < 128) = false := by simp; omega
  have d3 : decide ((b.size : Int) < 256) = false := by simp; omega
  have wt : IntKind.u8.wrap (a : Int) = (a : Int) := by rw [IntKind.wrap_u8]; omega
  have hsum : 4 + b.size ≤ 9223372036854775807 := by omega
  have hb := Below.refl w.heap.size w
  clear ht
  go_enter Tryz.func117, Tryz.ntmps117
  go_wp2_with fail
  refine (CT.out w).mono ?_
  rintro e W1 ⟨rfl, bk⟩
  replace hb := hb.trans (bk.mono hb.size)
  clear bk CT
  have hb1 : Below w.heap.size w (W1.alloc (.cells #[.int .u8 (a : Int)] 5)) := hb.alloc hb.size _
  have hsz1 : w.heap.size ≤ (W1.alloc (.cells #[.int .u8 (a : Int)] 5)).heap.size := hb1.size
  have HO0 := Lib.hid (show (W1.alloc (.cells #[.int .u8 (a : Int)] 5)).ownsRow W1.heap.size 5 1 (.slice (some ⟨W1.heap.size, 0, none⟩) 1 1) 1 [.int .u8 (a : Int)] from
    ⟨rfl, .inr ⟨W1.heap.size, 1, _, rfl, Nat.le_refl _, blk_new W1 _, by omega, by unfold maxLen; omega, rfl, rfl⟩⟩)
  have HO1 := Lib.hid (HO0.out.alloc (.cells #[.int .u8 130, .int .u8 ((b.size : Int) / 256), .int .u8 ((b.size : Int) % 256)] 5))
  have HN := Lib.hid (row_news _ (W1.heap.size + 1) 5 [.int .u8 130, .int .u8 ((b.size : Int) / 256), .int .u8 ((b.size : Int) % 256)] (0, 0) (blk_new2 W1 (.cells #[.int .u8 (a : Int)] 5) (.cells #[.int .u8 130, .int .u8 ((b.size : Int) / 256), .int .u8 ((b.size : Int) % 256)] 5)))
  have hb2 : Below w.heap.size w ((W1.alloc (.cells #[.int .u8 (a : Int)] 5)).alloc (.cells #[.int .u8 130, .int .u8 ((b.size : Int) / 256), .int .u8 ((b.size : Int) % 256)] 5)) := hb1.alloc hsz1 _
  have hW1 := hb.size
  go_wp2_with (at_builtin; refine wpList_append_own _ rfl (.tmp 32) (.tmp 39) 41 rfl W1.heap.size 5 i0 (.int .u8 0) 1 1 Tryz.underlying41 hi hz0 hz1 hz2 rfl (by omega) (.slice (some ⟨W1.heap.size, 0, none⟩) 1 1) 1 _ rfl HO1.out ⟨W1.heap.size + 1, 0, none⟩ 3 3 [.int .u8 130, .int .u8 ((b.size : Int) / 256), .int .u8 ((b.size : Int) % 256)] rfl rfl HN.out ?b2 ?b3 ?b4 ?b5 ?_)
  case b2 => intro u hu; simp at hu; (first | (subst hu; rfl) | (rcases hu with rfl | rfl <;> rfl) | (rcases hu with rfl | rfl | rfl <;> rfl))
  case b3 => unfold maxLen; omega
  case b4 => omega
  case b5 => simp; omega
  intro v1 W2 hown1 hgrow1 _
  have hb3 : Below w.heap.size w W2 := hb2.grown hgrow1 hb2.size (fun k hk => by have := (World.ownsRow.lt HO1.out k hk).1; omega)
  have hxs := own_of_row hown1
  have e3 := HC.out
  simp only [List.cons_append, List.nil_append] at e3 hxs
  rw [e3] at hxs
  obtain ⟨g, cp, rfl, hoG, _⟩ := hxs.1.some (by rw [Lib.byteCells_length]; simp)
  rw [Lib.byteCells_length]
  generalize hLL : (UInt8.ofNat a :: [130, UInt8.ofNat (b.size / 256), UInt8.ofNat b.size]) = L at *
  have hcv := run_string_row W2 g cp L (fun j x hx => hoG.cells j _ (by simp [Lib.byteCells, hx]))
  clear hoG hxs hown1 hgrow1 e3 HC HO0 HO1 HN hb hb1 hb2
  have hsz : L.toArray.size = 4 := by rw [← hLL]; rfl
  have HLL := Lib.hid hLL
  clear hLL
  generalize hil : (⟨L.toArray⟩ : ByteArray) = il at *
  have HIL := Lib.hid hil
  have hsum2 : il.size + b.size ≤ 9223372036854775807 := by rw [← hil]; show L.toArray.size + b.size ≤ _; rw [hsz]; exact hsum
  clear hil hsz
  go_wp2_with fail
  go_ret2
  exact ⟨by rw [HLL.out, HIL.out]; rfl, hb3⟩
set_option maxHeartbeats 2000000 in
theorem rwrBad_any (n : Int) (b : ByteArray) (w : World) (h0 : -9223372036854775808 ≤ n) (h1 : n ≤ 9223372036854775807) (ht : isT n = false) :
    Calls Tryz.prog 117 #[.int .i64 n, .string b] w fun e w' => e = .returned (.tuple #[.string ⟨#[]⟩, .int .i64 1]) ∧ Below w.heap.size w w' := by
  have CT := Lib.hid (fun W => risTag_any n W h0 h1)
  rw [ht] at CT
  have hb := Below.refl w.heap.size w
  clear ht h0 h1
  go_enter Tryz.func117, Tryz.ntmps117
  go_wp2_with fail
  refine (CT.out w).mono ?_
  rintro e W1 ⟨rfl, bk⟩
  go_wp2_with fail
  go_ret2
  exact ⟨rfl, hb.trans (bk.mono hb.size)⟩
set_option maxHeartbeats 2000000 in
theorem rwrBig_any (n : Int) (b : ByteArray) (w : World) (h0 : -9223372036854775808 ≤ n) (h1 : n ≤ 9223372036854775807) (ht : isT n = true) (hb' : 65536 ≤ b.size) :
    Calls Tryz.prog 117 #[.int .i64 n, .string b] w fun e w' => e = .returned (.tuple #[.string ⟨#[]⟩, .int .i64 13]) ∧ Below w.heap.size w w' := by
  have CT := Lib.hid (fun W => risTag_any n W h0 h1)
  rw [ht] at CT
  have d1 : decide ((65536 : Int) ≤ (b.size : Int)) = true := by simp; omega
  have hb := Below.refl w.heap.size w
  clear ht h0 h1
  go_enter Tryz.func117, Tryz.ntmps117
  go_wp2_with fail
  refine (CT.out w).mono ?_
  rintro e W1 ⟨rfl, bk⟩
  go_wp2_with fail
  go_ret2
  exact ⟨rfl, hb.trans (bk.mono hb.size)⟩
theorem rWrite_any (n : Int) (b : ByteArray) (w : World) (h0 : -9223372036854775808 ≤ n) (h1 : n ≤ 9223372036854775807) :
    Calls Tryz.prog 117 #[.int .i64 n, .string b] w fun e w' => e = .returned (.tuple #[.string (wrX n b), .int .i64 (wrE n b)]) ∧ Below w.heap.size w w' := by
  cases ht : isT n with
  | false =>
    have e1 : wrE n b = 1 := by rw [wrE, ht]; rfl
    rw [wrX, e1, if_neg (by decide)]
    exact rwrBad_any n b w h0 h1 ht
  | true =>
    by_cases hbg : 65536 ≤ b.size
    · have e1 : wrE n b = 13 := by rw [wrE, ht, if_pos rfl, if_neg (by omega)]
      rw [wrX, e1, if_neg (by decide)]
      exact rwrBig_any n b w h0 h1 ht hbg
    · have e1 : wrE n b = 0 := by rw [wrE, ht, if_pos rfl, if_pos (by omega)]
      rw [wrX, e1, if_pos rfl, wrL, lenL]
      have hr : 0 ≤ n ∧ n ≤ 255 := by
        have h := ht
        simp only [isT, Bool.and_eq_true, decide_eq_true_eq] at h
        exact h.1
      obtain ⟨a, rfl⟩ : ∃ a : Nat, n = (a : Int) := ⟨n.toNat, by omega⟩
      rw [Int.toNat_natCast]
      by_cases c1 : b.size < 128
      · rw [if_pos c1]
        exact rwrShort_any a b w (by omega) ht c1
      · rw [if_neg c1]
        by_cases c2 : b.size < 256
        · rw [if_pos c2]
          exact rwrMid_any a b w (by omega) ht ⟨by omega, c2⟩
        · rw [if_neg c2]
          exact rwrLong_any a b w (by omega) ht ⟨by omega, by omega⟩
end

section
open Go.RowKit Go.Sort
set_option maxRecDepth 100000
set_option linter.unusedSimpArgs false
set_option linter.unusedVariables false

def riBad (l : List UInt8) : Prop := 1 < l.length ∧ ((rdB l 0 = 0 ∧ rdB l 1 < 128) ∨ (rdB l 0 = 255 ∧ 128 ≤ rdB l 1))
instance (l : List UInt8) : Decidable (riBad l) := by unfold riBad; infer_instance
def riE (l : List UInt8) : Int := if l.length = 0 then 10 else if riBad l then 11 else if 8 < l.length then 13 else 0
/-- The number after so many bytes. -/
def riN (l : List UInt8) : Nat → Int
  | 0 => if 128 ≤ rdB l 0 then -1 else 0
  | k + 1 => riN l k * 256 + (rdB l k : Int)
def riV (s : ByteArray) : Int := if riE s.data.toList = 0 then riN s.data.toList s.data.toList.length else 0
def riErr (s : ByteArray) : Int := riE s.data.toList
theorem riN_first (l : List UInt8) : -128 ≤ riN l 1 ∧ riN l 1 < 128 := by
  have h := rdB_lt l 0
  rw [riN, riN]
  split <;> omega
theorem riN_bound (l : List UInt8) : ∀ k, -(128 * 256 ^ k : Nat) ≤ riN l (k + 1) ∧ riN l (k + 1) < (128 * 256 ^ k : Nat)
  | 0 => riN_first l
  | k + 1 => by
    have h := rdB_lt l (k + 1)
    have ih := riN_bound l k
    rw [riN, Nat.pow_succ]
    omega
theorem riN_small (l : List UInt8) (k : Nat) (h : k ≤ 7) : -36028797018963968 ≤ riN l k ∧ riN l k < 36028797018963968 := by
  cases k with
  | zero => rw [riN]; split <;> omega
  | succ k =>
    have ih := riN_bound l k
    have : 256 ^ k ≤ 256 ^ 6 := Nat.pow_le_pow_right (by decide) (by omega)
    have e6 : (256 : Nat) ^ 6 = 281474976710656 := by decide
    omega
theorem or_low8 (m : Int) (b : Nat) (hb : b < 256) (h0 : -36028797018963968 ≤ m) (h1 : m < 36028797018963968) : bits .or .i64 (m * 256) (b : Int) = m * 256 + (b : Int) := by
  have e1 : (BitVec.ofInt 64 (m * 256)).toNat = 2 ^ 8 * (m % 72057594037927936).toNat := by rw [BitVec.toNat_ofInt]; omega
  have e2 : (BitVec.ofInt 64 (b : Int)).toNat = b := by rw [BitVec.toNat_ofInt]; omega
  have h := Nat.two_pow_add_eq_or_of_lt (show b < 2 ^ 8 by omega) (m % 72057594037927936).toNat
  show IntKind.i64.wrap (((BitVec.ofInt 64 (m * 256) ||| BitVec.ofInt 64 (b : Int)).toNat : Nat) : Int) = _
  rw [BitVec.toNat_or, e1, e2, ← h, IntKind.wrap_i64]
  omega
theorem ri_bad (s : ByteArray) (e : Int) (h : riE s.data.toList = e) (he : e ≠ 0) : riV s = 0 ∧ riErr s = e := ⟨if_neg (by rw [h]; exact he), h⟩

set_option maxHeartbeats 16000000 in
theorem rReadInt_any (s : ByteArray) (w : World) (hs : s.size ≤ 1000000000) :
    Calls Tryz.prog 78 #[.string s] w fun e w' => e = .returned (.tuple #[.int .i64 (riV s), .int .i64 (riErr s)]) ∧ Below w.heap.size w w' := by
  have hl : s.data.toList.length = s.size := (Lib.size_eq s).symm
  have hb := Below.refl w.heap.size w
  by_cases c0 : s.size = 0
  · have q0 : (s.toList == []) = true := by rw [Lib.toList_data]; have : s.data.toList = [] := List.length_eq_zero_iff.1 (by omega); rw [this]; rfl
    have HB := Lib.hid (ri_bad s 10 (by rw [riE, if_pos (by omega)]) (by decide))
    generalize rdB s.data.toList 0 = b0 at *
    generalize rdB s.data.toList 1 = b1 at *
    clear hl hs 
    go_enter Tryz.func78, Tryz.ntmps78
    go_wp2_with fail
    go_ret2
    exact ⟨by rw [HB.out.1, HB.out.2]; rfl, hb⟩
  have q0 : (s.toList == []) = false := by rw [Lib.toList_data]; cases h : s.data.toList with | nil => rw [h] at hl; exact absurd hl.symm c0 | cons a r => rfl
  have hl0 : 0 < s.size := by omega
  have hi0 : (0 : Int) < (s.size : Int) := by omega
  have t0 := rd_at s 0 hl0
  have h0 := rdB_lt s.data.toList 0
  have n0 : ¬ s.data.toList.length = 0 := by omega
  by_cases c1 : s.size = 1
  · have d1 : decide ((1 : Int) < (s.size : Int)) = false := by simp; omega
    have nb : ¬ riBad s.data.toList := fun h => by have := h.1; omega
    have d8 : decide ((8 : Int) < (s.size : Int)) = false := by simp; omega
    by_cases c5 : 128 ≤ rdB s.data.toList 0
    · skip
      have HV : Hid (riV s = riN s.data.toList s.size ∧ riErr s = 0) := Lib.hid (by have h : riE s.data.toList = 0 := (by rw [riE, if_neg n0, if_neg nb, if_neg (by omega)]); exact ⟨by rw [riV, if_pos h, hl], h⟩)
      have HI : Hid (riN s.data.toList 0 = -1) := Lib.hid (by rw [riN, if_pos (by omega)])
      have d9 : decide (128 ≤ (rdB s.data.toList 0 : Int)) = true := by simp; omega
      have HR := Lib.hid (fun k (h : k < s.size) => rd_at s k h)
      have HS := Lib.hid (fun k => riN_small s.data.toList k)
      have HL := Lib.hid (fun k => rdB_lt s.data.toList k)
      have HN : Hid (∀ k, riN s.data.toList (k + 1) = riN s.data.toList k * 256 + (rdB s.data.toList k : Int)) := Lib.hid (fun k => rfl)
      have hs8 : s.size ≤ 8 := by omega
      skip
      clear hl hs n0 nb c5 c0 h0
      generalize rdB s.data.toList 1 = b1 at *
      obtain ⟨b0, eb⟩ : ∃ b0, rdB s.data.toList 0 = b0 := ⟨_, rfl⟩
      rw [eb] at t0 d9 
      clear eb
      go_enter Tryz.func78, Tryz.ntmps78
      go_wp2_with fail
      go_loopw [4, 5] (fun nv iv wr => ∃ k : Nat, k ≤ s.size ∧ nv = .int .i64 (riN s.data.toList k) ∧ iv = .int .i64 (k : Int) ∧ Below w.heap.size w wr) (fun _ iv _ => s.size - (intOf iv).toNat)
      case atStart => exact ⟨0, by omega, by rw [HI.out], rfl, hb⟩
      case round =>
        clear hb
        obtain ⟨k, hk, rfl, rfl, hb⟩ := hrel
        by_cases hlt : k < s.size
        · have hd : decide ((k : Int) < (s.size : Int)) = true := by simp; omega
          have hik : (k : Int) < (s.size : Int) := by omega
          have tk := HR.out k hlt
          have hbk := HL.out k
          obtain ⟨m0, m1⟩ := HS.out k (by omega)
          have ho := or_low8 (riN s.data.toList k) (rdB s.data.toList k) hbk m0 m1
          rw [← HN.out k] at ho
          have HX : Hid (∃ y, riN s.data.toList (k + 1) = y) := Lib.hid ⟨_, rfl⟩
          obtain ⟨y, hy⟩ := HX.out
          rw [hy] at ho
          have HY := Lib.hid hy
          clear hy HX
          have ws : IntKind.i64.wrap (riN s.data.toList k * 256) = riN s.data.toList k * 256 := by rw [IntKind.wrap_i64]; omega
          generalize riN s.data.toList k = m at *
          generalize rdB s.data.toList k = bk at *
          have wk : IntKind.i64.wrap (bk : Int) = (bk : Int) := by rw [IntKind.wrap_i64]; omega
          go_wp2_with fail
          go_roundw
          case rel => exact ⟨k + 1, by omega, by rw [HY.out], by go_num, hb⟩
          case measure => simp [intOf]; omega
        · have hd : decide ((k : Int) < (s.size : Int)) = false := by simp; omega
          obtain rfl : k = s.size := by omega
          obtain ⟨y, hy⟩ : ∃ y, riN s.data.toList s.size = y := ⟨_, rfl⟩
          rw [hy] at HV
          have HY := Lib.hid hy
          skip
          go_wp2_with fail
          go_ret2
          exact ⟨by rw [HV.out.1, HV.out.2, ← HY.out]; rfl, hb⟩
    · skip
      have HV : Hid (riV s = riN s.data.toList s.size ∧ riErr s = 0) := Lib.hid (by have h : riE s.data.toList = 0 := (by rw [riE, if_neg n0, if_neg nb, if_neg (by omega)]); exact ⟨by rw [riV, if_pos h, hl], h⟩)
      have HI : Hid (riN s.data.toList 0 = 0) := Lib.hid (by rw [riN, if_neg (by omega)])
      have d9 : decide (128 ≤ (rdB s.data.toList 0 : Int)) = false := by simp; omega
      have HR := Lib.hid (fun k (h : k < s.size) => rd_at s k h)
      have HS := Lib.hid (fun k => riN_small s.data.toList k)
      have HL := Lib.hid (fun k => rdB_lt s.data.toList k)
      have HN : Hid (∀ k, riN s.data.toList (k + 1) = riN s.data.toList k * 256 + (rdB s.data.toList k : Int)) := Lib.hid (fun k => rfl)
      have hs8 : s.size ≤ 8 := by omega
      skip
      clear hl hs n0 nb c5 c0 h0
      generalize rdB s.data.toList 1 = b1 at *
      obtain ⟨b0, eb⟩ : ∃ b0, rdB s.data.toList 0 = b0 := ⟨_, rfl⟩
      rw [eb] at t0 d9 
      clear eb
      go_enter Tryz.func78, Tryz.ntmps78
      go_wp2_with fail
      go_loopw [4, 5] (fun nv iv wr => ∃ k : Nat, k ≤ s.size ∧ nv = .int .i64 (riN s.data.toList k) ∧ iv = .int .i64 (k : Int) ∧ Below w.heap.size w wr) (fun _ iv _ => s.size - (intOf iv).toNat)
      case atStart => exact ⟨0, by omega, by rw [HI.out], rfl, hb⟩
      case round =>
        clear hb
        obtain ⟨k, hk, rfl, rfl, hb⟩ := hrel
        by_cases hlt : k < s.size
        · have hd : decide ((k : Int) < (s.size : Int)) = true := by simp; omega
          have hik : (k : Int) < (s.size : Int) := by omega
          have tk := HR.out k hlt
          have hbk := HL.out k
          obtain ⟨m0, m1⟩ := HS.out k (by omega)
          have ho := or_low8 (riN s.data.toList k) (rdB s.data.toList k) hbk m0 m1
          rw [← HN.out k] at ho
          have HX : Hid (∃ y, riN s.data.toList (k + 1) = y) := Lib.hid ⟨_, rfl⟩
          obtain ⟨y, hy⟩ := HX.out
          rw [hy] at ho
          have HY := Lib.hid hy
          clear hy HX
          have ws : IntKind.i64.wrap (riN s.data.toList k * 256) = riN s.data.toList k * 256 := by rw [IntKind.wrap_i64]; omega
          generalize riN s.data.toList k = m at *
          generalize rdB s.data.toList k = bk at *
          have wk : IntKind.i64.wrap (bk : Int) = (bk : Int) := by rw [IntKind.wrap_i64]; omega
          go_wp2_with fail
          go_roundw
          case rel => exact ⟨k + 1, by omega, by rw [HY.out], by go_num, hb⟩
          case measure => simp [intOf]; omega
        · have hd : decide ((k : Int) < (s.size : Int)) = false := by simp; omega
          obtain rfl : k = s.size := by omega
          obtain ⟨y, hy⟩ : ∃ y, riN s.data.toList s.size = y := ⟨_, rfl⟩
          rw [hy] at HV
          have HY := Lib.hid hy
          skip
          go_wp2_with fail
          go_ret2
          exact ⟨by rw [HV.out.1, HV.out.2, ← HY.out]; rfl, hb⟩
  have d1 : decide ((1 : Int) < (s.size : Int)) = true := by simp; omega
  have hl1 : 1 < s.size := by omega
  have hi1 : (1 : Int) < (s.size : Int) := by omega
  have t1 := rd_at s 1 hl1
  have h1 := rdB_lt s.data.toList 1
  by_cases c2 : rdB s.data.toList 0 = 0
  · have f0 : ((rdB s.data.toList 0 : Int) == 0) = true := by simp; omega
    have f1 : ((rdB s.data.toList 0 : Int) == 255) = false := by simp; omega
    by_cases c3 : rdB s.data.toList 1 < 128
    · have f2 : decide ((rdB s.data.toList 1 : Int) < 128) = true := by simp; omega
      have HB := Lib.hid (ri_bad s 11 (by rw [riE, if_neg n0, if_pos ⟨by omega, .inl ⟨c2, c3⟩⟩]) (by decide))
      generalize rdB s.data.toList 0 = b0 at *
      generalize rdB s.data.toList 1 = b1 at *
      clear hl hs n0 c0 c1 c2 c3
      go_enter Tryz.func78, Tryz.ntmps78
      go_wp2_with fail
      go_ret2
      exact ⟨by rw [HB.out.1, HB.out.2]; rfl, hb⟩
    have f2 : decide ((rdB s.data.toList 1 : Int) < 128) = false := by simp; omega
    have nb : ¬ riBad s.data.toList := fun h => by rcases h.2 with h | h <;> omega
    by_cases c8 : 8 < s.size
    · have d8 : decide ((8 : Int) < (s.size : Int)) = true := by simp; omega
      have HB := Lib.hid (ri_bad s 13 (by rw [riE, if_neg n0, if_neg nb, if_pos (by omega)]) (by decide))
      generalize rdB s.data.toList 0 = b0 at *
      generalize rdB s.data.toList 1 = b1 at *
      clear hl hs n0 nb c0 c1 c8
      go_enter Tryz.func78, Tryz.ntmps78
      go_wp2_with fail
      go_ret2
      exact ⟨by rw [HB.out.1, HB.out.2]; rfl, hb⟩
    have d8 : decide ((8 : Int) < (s.size : Int)) = false := by simp; omega
    have HV : Hid (riV s = riN s.data.toList s.size ∧ riErr s = 0) := Lib.hid (by have h : riE s.data.toList = 0 := (by rw [riE, if_neg n0, if_neg nb, if_neg (by omega)]); exact ⟨by rw [riV, if_pos h, hl], h⟩)
    have HI : Hid (riN s.data.toList 0 = 0) := Lib.hid (by rw [riN, if_neg (by omega)])
    have d9 : decide (128 ≤ (rdB s.data.toList 0 : Int)) = false := by simp; omega
    have HR := Lib.hid (fun k (h : k < s.size) => rd_at s k h)
    have HS := Lib.hid (fun k => riN_small s.data.toList k)
    have HL := Lib.hid (fun k => rdB_lt s.data.toList k)
    have HN : Hid (∀ k, riN s.data.toList (k + 1) = riN s.data.toList k * 256 + (rdB s.data.toList k : Int)) := Lib.hid (fun k => rfl)
    have hs8 : s.size ≤ 8 := by omega
    skip
    clear hl hs n0 nb c0 c1 c2 c3 c8 h0
    generalize rdB s.data.toList 1 = b1 at *
    obtain ⟨b0, eb⟩ : ∃ b0, rdB s.data.toList 0 = b0 := ⟨_, rfl⟩
    rw [eb] at t0 d9 f0 f1
    clear eb
    go_enter Tryz.func78, Tryz.ntmps78
    go_wp2_with fail
    go_loopw [4, 5] (fun nv iv wr => ∃ k : Nat, k ≤ s.size ∧ nv = .int .i64 (riN s.data.toList k) ∧ iv = .int .i64 (k : Int) ∧ Below w.heap.size w wr) (fun _ iv _ => s.size - (intOf iv).toNat)
    case atStart => exact ⟨0, by omega, by rw [HI.out], rfl, hb⟩
    case round =>
      clear hb
      obtain ⟨k, hk, rfl, rfl, hb⟩ := hrel
      by_cases hlt : k < s.size
      · have hd : decide ((k : Int) < (s.size : Int)) = true := by simp; omega
        have hik : (k : Int) < (s.size : Int) := by omega
        have tk := HR.out k hlt
        have hbk := HL.out k
        obtain ⟨m0, m1⟩ := HS.out k (by omega)
        have ho := or_low8 (riN s.data.toList k) (rdB s.data.toList k) hbk m0 m1
        rw [← HN.out k] at ho
        have HX : Hid (∃ y, riN s.data.toList (k + 1) = y) := Lib.hid ⟨_, rfl⟩
        obtain ⟨y, hy⟩ := HX.out
        rw [hy] at ho
        have HY := Lib.hid hy
        clear hy HX
        have ws : IntKind.i64.wrap (riN s.data.toList k * 256) = riN s.data.toList k * 256 := by rw [IntKind.wrap_i64]; omega
        generalize riN s.data.toList k = m at *
        generalize rdB s.data.toList k = bk at *
        have wk : IntKind.i64.wrap (bk : Int) = (bk : Int) := by rw [IntKind.wrap_i64]; omega
        go_wp2_with fail
        go_roundw
        case rel => exact ⟨k + 1, by omega, by rw [HY.out], by go_num, hb⟩
        case measure => simp [intOf]; omega
      · have hd : decide ((k : Int) < (s.size : Int)) = false := by simp; omega
        obtain rfl : k = s.size := by omega
        obtain ⟨y, hy⟩ : ∃ y, riN s.data.toList s.size = y := ⟨_, rfl⟩
        rw [hy] at HV
        have HY := Lib.hid hy
        skip
        go_wp2_with fail
        go_ret2
        exact ⟨by rw [HV.out.1, HV.out.2, ← HY.out]; rfl, hb⟩
  have f0 : ((rdB s.data.toList 0 : Int) == 0) = false := by simp; omega
  by_cases c4 : rdB s.data.toList 0 = 255
  · have f1 : ((rdB s.data.toList 0 : Int) == 255) = true := by simp; omega
    by_cases c3 : 128 ≤ rdB s.data.toList 1
    · have f2 : decide (128 ≤ (rdB s.data.toList 1 : Int)) = true := by simp; omega
      have HB := Lib.hid (ri_bad s 11 (by rw [riE, if_neg n0, if_pos ⟨by omega, .inr ⟨c4, c3⟩⟩]) (by decide))
      generalize rdB s.data.toList 0 = b0 at *
      generalize rdB s.data.toList 1 = b1 at *
      clear hl hs n0 c0 c1 c2 c3 c4
      go_enter Tryz.func78, Tryz.ntmps78
      go_wp2_with fail
      go_ret2
      exact ⟨by rw [HB.out.1, HB.out.2]; rfl, hb⟩
    have f2 : decide (128 ≤ (rdB s.data.toList 1 : Int)) = false := by simp; omega
    have nb : ¬ riBad s.data.toList := fun h => by rcases h.2 with h | h <;> omega
    by_cases c8 : 8 < s.size
    · have d8 : decide ((8 : Int) < (s.size : Int)) = true := by simp; omega
      have HB := Lib.hid (ri_bad s 13 (by rw [riE, if_neg n0, if_neg nb, if_pos (by omega)]) (by decide))
      generalize rdB s.data.toList 0 = b0 at *
      generalize rdB s.data.toList 1 = b1 at *
      clear hl hs n0 nb c0 c1 c8
      go_enter Tryz.func78, Tryz.ntmps78
      go_wp2_with fail
      go_ret2
      exact ⟨by rw [HB.out.1, HB.out.2]; rfl, hb⟩
    have d8 : decide ((8 : Int) < (s.size : Int)) = false := by simp; omega
    have HV : Hid (riV s = riN s.data.toList s.size ∧ riErr s = 0) := Lib.hid (by have h : riE s.data.toList = 0 := (by rw [riE, if_neg n0, if_neg nb, if_neg (by omega)]); exact ⟨by rw [riV, if_pos h, hl], h⟩)
    have HI : Hid (riN s.data.toList 0 = -1) := Lib.hid (by rw [riN, if_pos (by omega)])
    have d9 : decide (128 ≤ (rdB s.data.toList 0 : Int)) = true := by simp; omega
    have HR := Lib.hid (fun k (h : k < s.size) => rd_at s k h)
    have HS := Lib.hid (fun k => riN_small s.data.toList k)
    have HL := Lib.hid (fun k => rdB_lt s.data.toList k)
    have HN : Hid (∀ k, riN s.data.toList (k + 1) = riN s.data.toList k * 256 + (rdB s.data.toList k : Int)) := Lib.hid (fun k => rfl)
    have hs8 : s.size ≤ 8 := by omega
    skip
    clear hl hs n0 nb c0 c1 c2 c3 c4 c8 h0
    generalize rdB s.data.toList 1 = b1 at *
    obtain ⟨b0, eb⟩ : ∃ b0, rdB s.data.toList 0 = b0 := ⟨_, rfl⟩
    rw [eb] at t0 d9 f0 f1
    clear eb
    go_enter Tryz.func78, Tryz.ntmps78
    go_wp2_with fail
    go_loopw [4, 5] (fun nv iv wr => ∃ k : Nat, k ≤ s.size ∧ nv = .int .i64 (riN s.data.toList k) ∧ iv = .int .i64 (k : Int) ∧ Below w.heap.size w wr) (fun _ iv _ => s.size - (intOf iv).toNat)
    case atStart => exact ⟨0, by omega, by rw [HI.out], rfl, hb⟩
    case round =>
      clear hb
      obtain ⟨k, hk, rfl, rfl, hb⟩ := hrel
      by_cases hlt : k < s.size
      · have hd : decide ((k : Int) < (s.size : Int)) = true := by simp; omega
        have hik : (k : Int) < (s.size : Int) := by omega
        have tk := HR.out k hlt
        have hbk := HL.out k
        obtain ⟨m0, m1⟩ := HS.out k (by omega)
        have ho := or_low8 (riN s.data.toList k) (rdB s.data.toList k) hbk m0 m1
        rw [← HN.out k] at ho
        have HX : Hid (∃ y, riN s.data.toList (k + 1) = y) := Lib.hid ⟨_, rfl⟩
        obtain ⟨y, hy⟩ := HX.out
        rw [hy] at ho
        have HY := Lib.hid hy
        clear hy HX
        have ws : IntKind.i64.wrap (riN s.data.toList k * 256) = riN s.data.toList k * 256 := by rw [IntKind.wrap_i64]; omega
        generalize riN s.data.toList k = m at *
        generalize rdB s.data.toList k = bk at *
        have wk : IntKind.i64.wrap (bk : Int) = (bk : Int) := by rw [IntKind.wrap_i64]; omega
        go_wp2_with fail
        go_roundw
        case rel => exact ⟨k + 1, by omega, by rw [HY.out], by go_num, hb⟩
        case measure => simp [intOf]; omega
      · have hd : decide ((k : Int) < (s.size : Int)) = false := by simp; omega
        obtain rfl : k = s.size := by omega
        obtain ⟨y, hy⟩ : ∃ y, riN s.data.toList s.size = y := ⟨_, rfl⟩
        rw [hy] at HV
        have HY := Lib.hid hy
        skip
        go_wp2_with fail
        go_ret2
        exact ⟨by rw [HV.out.1, HV.out.2, ← HY.out]; rfl, hb⟩
  have f1 : ((rdB s.data.toList 0 : Int) == 255) = false := by simp; omega
  have nb : ¬ riBad s.data.toList := fun h => by rcases h.2 with h | h <;> omega
  by_cases c8 : 8 < s.size
  · have d8 : decide ((8 : Int) < (s.size : Int)) = true := by simp; omega
    have HB := Lib.hid (ri_bad s 13 (by rw [riE, if_neg n0, if_neg nb, if_pos (by omega)]) (by decide))
    generalize rdB s.data.toList 0 = b0 at *
    generalize rdB s.data.toList 1 = b1 at *
    clear hl hs n0 nb c0 c1 c8
    go_enter Tryz.func78, Tryz.ntmps78
    go_wp2_with fail
    go_ret2
    exact ⟨by rw [HB.out.1, HB.out.2]; rfl, hb⟩
  have d8 : decide ((8 : Int) < (s.size : Int)) = false := by simp; omega
  by_cases c5 : 128 ≤ rdB s.data.toList 0
  · skip
    have HV : Hid (riV s = riN s.data.toList s.size ∧ riErr s = 0) := Lib.hid (by have h : riE s.data.toList = 0 := (by rw [riE, if_neg n0, if_neg nb, if_neg (by omega)]); exact ⟨by rw [riV, if_pos h, hl], h⟩)
    have HI : Hid (riN s.data.toList 0 = -1) := Lib.hid (by rw [riN, if_pos (by omega)])
    have d9 : decide (128 ≤ (rdB s.data.toList 0 : Int)) = true := by simp; omega
    have HR := Lib.hid (fun k (h : k < s.size) => rd_at s k h)
    have HS := Lib.hid (fun k => riN_small s.data.toList k)
    have HL := Lib.hid (fun k => rdB_lt s.data.toList k)
    have HN : Hid (∀ k, riN s.data.toList (k + 1) = riN s.data.toList k * 256 + (rdB s.data.toList k : Int)) := Lib.hid (fun k => rfl)
    have hs8 : s.size ≤ 8 := by omega
    skip
    clear hl hs n0 nb c0 c1 c2 c4 c8 h0 c5
    generalize rdB s.data.toList 1 = b1 at *
    obtain ⟨b0, eb⟩ : ∃ b0, rdB s.data.toList 0 = b0 := ⟨_, rfl⟩
    rw [eb] at t0 d9 f0 f1
    clear eb
    go_enter Tryz.func78, Tryz.ntmps78
    go_wp2_with fail
    go_loopw [4, 5] (fun nv iv wr => ∃ k : Nat, k ≤ s.size ∧ nv = .int .i64 (riN s.data.toList k) ∧ iv = .int .i64 (k : Int) ∧ Below w.heap.size w wr) (fun _ iv _ => s.size - (intOf iv).toNat)
    case atStart => exact ⟨0, by omega, by rw [HI.out], rfl, hb⟩
    case round =>
      clear hb
      obtain ⟨k, hk, rfl, rfl, hb⟩ := hrel
      by_cases hlt : k < s.size
      · have hd : decide ((k : Int) < (s.size : Int)) = true := by simp; omega
        have hik : (k : Int) < (s.size : Int) := by omega
        have tk := HR.out k hlt
        have hbk := HL.out k
        obtain ⟨m0, m1⟩ := HS.out k (by omega)
        have ho := or_low8 (riN s.data.toList k) (rdB s.data.toList k) hbk m0 m1
        rw [← HN.out k] at ho
        have HX : Hid (∃ y, riN s.data.toList (k + 1) = y) := Lib.hid ⟨_, rfl⟩
        obtain ⟨y, hy⟩ := HX.out
        rw [hy] at ho
        have HY := Lib.hid hy
        clear hy HX
        have ws : IntKind.i64.wrap (riN s.data.toList k * 256) = riN s.data.toList k * 256 := by rw [IntKind.wrap_i64]; omega
        generalize riN s.data.toList k = m at *
        generalize rdB s.data.toList k = bk at *
        have wk : IntKind.i64.wrap (bk : Int) = (bk : Int) := by rw [IntKind.wrap_i64]; omega
        go_wp2_with fail
        go_roundw
        case rel => exact ⟨k + 1, by omega, by rw [HY.out], by go_num, hb⟩
        case measure => simp [intOf]; omega
      · have hd : decide ((k : Int) < (s.size : Int)) = false := by simp; omega
        obtain rfl : k = s.size := by omega
        obtain ⟨y, hy⟩ : ∃ y, riN s.data.toList s.size = y := ⟨_, rfl⟩
        rw [hy] at HV
        have HY := Lib.hid hy
        skip
        go_wp2_with fail
        go_ret2
        exact ⟨by rw [HV.out.1, HV.out.2, ← HY.out]; rfl, hb⟩
  · skip
    have HV : Hid (riV s = riN s.data.toList s.size ∧ riErr s = 0) := Lib.hid (by have h : riE s.data.toList = 0 := (by rw [riE, if_neg n0, if_neg nb, if_neg (by omega)]); exact ⟨by rw [riV, if_pos h, hl], h⟩)
    have HI : Hid (riN s.data.toList 0 = 0) := Lib.hid (by rw [riN, if_neg (by omega)])
    have d9 : decide (128 ≤ (rdB s.data.toList 0 : Int)) = false := by simp; omega
    have HR := Lib.hid (fun k (h : k < s.size) => rd_at s k h)
    have HS := Lib.hid (fun k => riN_small s.data.toList k)
    have HL := Lib.hid (fun k => rdB_lt s.data.toList k)
    have HN : Hid (∀ k, riN s.data.toList (k + 1) = riN s.data.toList k * 256 + (rdB s.data.toList k : Int)) := Lib.hid (fun k => rfl)
    have hs8 : s.size ≤ 8 := by omega
    skip
    clear hl hs n0 nb c0 c1 c2 c4 c8 h0 c5
    generalize rdB s.data.toList 1 = b1 at *
    obtain ⟨b0, eb⟩ : ∃ b0, rdB s.data.toList 0 = b0 := ⟨_, rfl⟩
    rw [eb] at t0 d9 f0 f1
    clear eb
    go_enter Tryz.func78, Tryz.ntmps78
    go_wp2_with fail
    go_loopw [4, 5] (fun nv iv wr => ∃ k : Nat, k ≤ s.size ∧ nv = .int .i64 (riN s.data.toList k) ∧ iv = .int .i64 (k : Int) ∧ Below w.heap.size w wr) (fun _ iv _ => s.size - (intOf iv).toNat)
    case atStart => exact ⟨0, by omega, by rw [HI.out], rfl, hb⟩
    case round =>
      clear hb
      obtain ⟨k, hk, rfl, rfl, hb⟩ := hrel
      by_cases hlt : k < s.size
      · have hd : decide ((k : Int) < (s.size : Int)) = true := by simp; omega
        have hik : (k : Int) < (s.size : Int) := by omega
        have tk := HR.out k hlt
        have hbk := HL.out k
        obtain ⟨m0, m1⟩ := HS.out k (by omega)
        have ho := or_low8 (riN s.data.toList k) (rdB s.data.toList k) hbk m0 m1
        rw [← HN.out k] at ho
        have HX : Hid (∃ y, riN s.data.toList (k + 1) = y) := Lib.hid ⟨_, rfl⟩
        obtain ⟨y, hy⟩ := HX.out
        rw [hy] at ho
        have HY := Lib.hid hy
        clear hy HX
        have ws : IntKind.i64.wrap (riN s.data.toList k * 256) = riN s.data.toList k * 256 := by rw [IntKind.wrap_i64]; omega
        generalize riN s.data.toList k = m at *
        generalize rdB s.data.toList k = bk at *
        have wk : IntKind.i64.wrap (bk : Int) = (bk : Int) := by rw [IntKind.wrap_i64]; omega
        go_wp2_with fail
        go_roundw
        case rel => exact ⟨k + 1, by omega, by rw [HY.out], by go_num, hb⟩
        case measure => simp [intOf]; omega
      · have hd : decide ((k : Int) < (s.size : Int)) = false := by simp; omega
        obtain rfl : k = s.size := by omega
        obtain ⟨y, hy⟩ : ∃ y, riN s.data.toList s.size = y := ⟨_, rfl⟩
        rw [hy] at HV
        have HY := Lib.hid hy
        skip
        go_wp2_with fail
        go_ret2
        exact ⟨by rw [HV.out.1, HV.out.2, ← HY.out]; rfl, hb⟩
end

section
set_option maxRecDepth 100000
set_option linter.unusedSimpArgs false
set_option linter.unusedVariables false

theorem toNat_of (k : Nat) (h : k < 256) : (UInt8.ofNat k).toNat = k := by rw [UInt8.toNat_ofNat']; omega
theorem rdB_0 (x : UInt8) (l : List UInt8) : rdB (x :: l) 0 = x.toNat := rfl
theorem rdB_1 (x y : UInt8) (l : List UInt8) : rdB (x :: y :: l) 1 = y.toNat := rfl
theorem rdB_2 (x y z : UInt8) (l : List UInt8) : rdB (x :: y :: z :: l) 2 = z.toNat := rfl
theorem rdB_3 (x y z v : UInt8) (l : List UInt8) : rdB (x :: y :: z :: v :: l) 3 = v.toNat := rfl
/-- A thing, and what is behind it. -/
theorem rd_list (a n : Nat) (bl rl : List UInt8) (ha : a < 256) (ht : a % 32 ≠ 31) (hn : bl.length = n) (h : n < 65536) :
    rdB (wrL a n ++ (bl ++ rl)) 0 = a ∧ rdA (wrL a n ++ (bl ++ rl)) = (wrL a n).length ∧ rdN (wrL a n ++ (bl ++ rl)) = n ∧ rdE (wrL a n ++ (bl ++ rl)) = 0 := by
  have e0 : rdB (wrL a n ++ (bl ++ rl)) 0 = a := toNat_of a ha
  have hl : (wrL a n ++ (bl ++ rl)).length = (wrL a n).length + n + rl.length := by rw [List.length_append, List.length_append, hn]; omega
  by_cases c1 : n < 128
  · have ew : wrL a n = [UInt8.ofNat a, UInt8.ofNat n] := by rw [wrL, lenL, if_pos c1]; rfl
    rw [ew] at e0 hl ⊢
    have e1 : rdB ([UInt8.ofNat a, UInt8.ofNat n] ++ (bl ++ rl)) 1 = n := toNat_of n (by omega)
    generalize [UInt8.ofNat a, UInt8.ofNat n] ++ (bl ++ rl) = l at *
    have hA : rdA l = 2 := if_neg (by omega)
    have hN : rdN l = n := by rw [rdN, if_neg (by omega), if_neg (by omega), e1]
    refine ⟨e0, hA, hN, ?_⟩
    simp only [List.length_cons, List.length_nil] at hl
    rw [rdE, if_neg (by omega), if_neg (by omega), if_neg (by omega), if_neg (by omega), if_neg (by omega), if_neg (by omega), if_neg (by omega)]
  by_cases c2 : n < 256
  · have ew : wrL a n = [UInt8.ofNat a, 129, UInt8.ofNat n] := by rw [wrL, lenL, if_neg c1, if_pos c2]; rfl
    rw [ew] at e0 hl ⊢
    have e1 : rdB ([UInt8.ofNat a, 129, UInt8.ofNat n] ++ (bl ++ rl)) 1 = 129 := rfl
    have e2 : rdB ([UInt8.ofNat a, 129, UInt8.ofNat n] ++ (bl ++ rl)) 2 = n := toNat_of n (by omega)
    generalize [UInt8.ofNat a, 129, UInt8.ofNat n] ++ (bl ++ rl) = l at *
    have hA : rdA l = 3 := by rw [rdA, if_pos (by omega), e1]
    have hN : rdN l = n := by rw [rdN, if_pos e1, e2]
    refine ⟨e0, hA, hN, ?_⟩
    simp only [List.length_cons, List.length_nil] at hl
    rw [rdE, if_neg (by omega), if_neg (by omega), if_neg (by omega), if_neg (by omega), if_neg (by omega), if_neg (by omega), if_neg (by omega)]
  · have ew : wrL a n = [UInt8.ofNat a, 130, UInt8.ofNat (n / 256), UInt8.ofNat n] := by rw [wrL, lenL, if_neg c1, if_neg c2]; rfl
    rw [ew] at e0 hl ⊢
    have e1 : rdB ([UInt8.ofNat a, 130, UInt8.ofNat (n / 256), UInt8.ofNat n] ++ (bl ++ rl)) 1 = 130 := rfl
    have e2 : rdB ([UInt8.ofNat a, 130, UInt8.ofNat (n / 256), UInt8.ofNat n] ++ (bl ++ rl)) 2 = n / 256 := toNat_of _ (by omega)
    have e3 : rdB ([UInt8.ofNat a, 130, UInt8.ofNat (n / 256), UInt8.ofNat n] ++ (bl ++ rl)) 3 = n % 256 := by
      show (UInt8.ofNat n).toNat = n % 256
      rw [UInt8.toNat_ofNat']
    generalize [UInt8.ofNat a, 130, UInt8.ofNat (n / 256), UInt8.ofNat n] ++ (bl ++ rl) = l at *
    have hA : rdA l = 4 := by rw [rdA, if_pos (by omega), e1]
    have hN : rdN l = n := by rw [rdN, if_neg (by omega), if_pos e1, e2, e3]; omega
    refine ⟨e0, hA, hN, ?_⟩
    simp only [List.length_cons, List.length_nil] at hl
    rw [rdE, if_neg (by omega), if_neg (by omega), if_neg (by omega), if_neg (by omega), if_neg (by omega), if_neg (by omega), if_neg (by omega)]
theorem ext_of (s : ByteArray) (a b : Nat) (l : List UInt8) (h : ((s.data.toList.drop a).take (b - a)) = l) : s.extract a b = ⟨l.toArray⟩ := by
  have h2 : (s.extract a b).data.toList = (⟨l.toArray⟩ : ByteArray).data.toList := by rw [Lib.extract_data, h]
  apply ByteArray.ext
  exact Array.toList_inj.1 h2
theorem mk_data (s : ByteArray) : (⟨s.data.toList.toArray⟩ : ByteArray) = s := by
  apply ByteArray.ext
  exact Array.toArray_toList
/-- What is written is read. -/
theorem rd_wr (n : Int) (b r : ByteArray) (h : wrE n b = 0) : rdTag (wrX n b ++ r) = n ∧ rdBody (wrX n b ++ r) = b ∧ rdRest (wrX n b ++ r) = r ∧ rdErr (wrX n b ++ r) = 0 := by
  have hT : isT n = true := by
    cases ht : isT n with
    | true => rfl
    | false => rw [wrE, ht] at h; cases h
  have hz : b.size < 65536 := by
    apply Nat.lt_of_not_le
    intro hc
    rw [wrE, hT, if_pos rfl, if_neg (by omega)] at h
    cases h
  have hr : 0 ≤ n ∧ n ≤ 255 ∧ n % 32 ≠ 31 := by
    have h' := hT
    simp only [isT, Bool.and_eq_true, decide_eq_true_eq, bne_iff_ne] at h'
    exact ⟨h'.1.1, h'.1.2, h'.2⟩
  obtain ⟨a, rfl⟩ : ∃ a : Nat, n = (a : Int) := ⟨n.toNat, by omega⟩
  have hx : wrX (a : Int) b = ⟨(wrL (a : Int) b.size).toArray⟩ ++ b := by rw [wrX, if_pos h]
  have hl : (wrX (a : Int) b ++ r).data.toList = wrL (a : Int) b.size ++ (b.data.toList ++ r.data.toList) := by
    rw [hx, ByteArray.data_append, ByteArray.data_append, Array.toList_append, Array.toList_append, List.append_assoc]
  have hbl : b.data.toList.length = b.size := (Lib.size_eq b).symm
  obtain ⟨q0, qA, qN, qE⟩ := rd_list a b.size b.data.toList r.data.toList (by omega) (by omega) hbl hz
  have hw : wrL ((a : Nat) : Int) b.size = wrL a b.size := rfl
  obtain ⟨g1, g2, g3, g4⟩ := rd_good (wrX (a : Int) b ++ r) (by rw [hl]; exact qE)
  rw [hl, q0] at g1
  rw [hl, qA, qN] at g2 g3
  refine ⟨g1, ?_, ?_, g4⟩
  · rw [g2, ext_of _ _ _ b.data.toList, mk_data]
    rw [hl, List.drop_left, Nat.add_sub_cancel_left, ← hbl, List.take_left]
  · rw [g3, ext_of _ _ _ r.data.toList, mk_data]
    rw [hl, ← List.append_assoc, List.drop_left' (by rw [List.length_append, hbl]), List.take_of_length_le]
    have : (wrX (a : Int) b ++ r).size = (wrX (a : Int) b ++ r).data.toList.length := Lib.size_eq _
    rw [this, hl, List.length_append, List.length_append, hbl]
    omega
/-- What is read is written again. -/
theorem wr_rd (s : ByteArray) (h : rdErr s = 0) (hs : s.size < 65536) : wrE (rdTag s) (rdBody s) = 0 ∧ wrX (rdTag s) (rdBody s) ++ rdRest s = s := by
  obtain ⟨g1, g2, g3, _⟩ := rd_good s h
  have hl : s.data.toList.length = s.size := (Lib.size_eq s).symm
  have h0 := rdB_lt s.data.toList 0; have h1 := rdB_lt s.data.toList 1; have h2 := rdB_lt s.data.toList 2; have h3 := rdB_lt s.data.toList 3
  obtain ⟨k1, k2, k3, k4, k5, k6, k7⟩ : ¬ s.data.toList.length = 0 ∧ ¬ rdB s.data.toList 0 % 32 = 31 ∧ ¬ s.data.toList.length < 2 ∧ ¬ (rdB s.data.toList 1 = 128 ∨ 130 < rdB s.data.toList 1) ∧ ¬ s.data.toList.length < rdA s.data.toList ∧
      ¬ ((rdB s.data.toList 1 = 129 ∧ rdN s.data.toList < 128) ∨ (rdB s.data.toList 1 = 130 ∧ rdN s.data.toList < 256)) ∧ ¬ s.data.toList.length < rdA s.data.toList + rdN s.data.toList := by
    have h' : rdE s.data.toList = 0 := h
    rw [rdE] at h'
    split at h'; · cases h'
    split at h'; · cases h'
    split at h'; · cases h'
    split at h'; · cases h'
    split at h'; · cases h'
    split at h'; · cases h'
    split at h'; · cases h'
    refine ⟨?_, ?_, ?_, ?_, ?_, ?_, ?_⟩ <;> assumption
  have hbz : (rdBody s).size = rdN s.data.toList := by rw [g2, ByteArray.size_extract]; omega
  have hT : isT (rdTag s) = true := by rw [g1, isT_byte _ h0]; simp [k2]
  have hE : wrE (rdTag s) (rdBody s) = 0 := by rw [wrE, hT, if_pos rfl, if_pos (by omega)]
  refine ⟨hE, ?_⟩
  have hx : wrX (rdTag s) (rdBody s) = ⟨(wrL (rdTag s) (rdBody s).size).toArray⟩ ++ rdBody s := by rw [wrX, if_pos hE]
  have hw : wrL (rdTag s) (rdBody s).size = s.data.toList.take (rdA s.data.toList) := by
    rw [g1, hbz, wrL, Int.toNat_natCast]
    generalize hll : s.data.toList = l at *
    clear g1 g2 g3 hx hE hT hbz hl hs h hll
    have ofB : ∀ i, UInt8.ofNat (rdB l i) = l.getD i 0 := fun i => by rw [rdB]; exact UInt8.ofNat_toNat
    match l, k1, k3 with
    | x :: y :: r, _, _ =>
      rw [rdB_0] at *
      rw [rdB_1] at *
      by_cases c1 : y.toNat < 128
      · have hA : rdA (x :: y :: r) = 2 := if_neg (by rw [rdB_1]; omega)
        have hN : rdN (x :: y :: r) = y.toNat := by rw [rdN, rdB_1, if_neg (by omega), if_neg (by omega)]
        rw [hA, hN, lenL, if_pos c1, UInt8.ofNat_toNat, UInt8.ofNat_toNat]
        rfl
      · by_cases c2 : y.toNat = 129
        · have hA : rdA (x :: y :: r) = 3 := by rw [rdA, rdB_1, if_pos (by omega)]; omega
          have hN : rdN (x :: y :: r) = rdB (x :: y :: r) 2 := by rw [rdN, rdB_1, if_pos c2]
          rw [hA] at k5 ⊢
          rw [hN] at k6 ⊢
          match r, k5 with
          | z :: r, _ =>
            rw [rdB_2] at *
            have ey : y = 129 := UInt8.toNat_inj.1 (by rw [c2]; rfl)
            rw [lenL, if_neg (by omega), if_pos (by omega), UInt8.ofNat_toNat, UInt8.ofNat_toNat, ey]
            rfl
          | [], h => simp at h
        · have c3 : y.toNat = 130 := by omega
          have hA : rdA (x :: y :: r) = 4 := by rw [rdA, rdB_1, if_pos (by omega)]; omega
          have hN : rdN (x :: y :: r) = 256 * rdB (x :: y :: r) 2 + rdB (x :: y :: r) 3 := by rw [rdN, rdB_1, if_neg c2, if_pos c3]
          rw [hA] at k5 ⊢
          rw [hN] at k6 ⊢
          match r, k5 with
          | z :: v :: r, _ =>
            rw [rdB_2, rdB_3] at *
            have ey : y = 130 := UInt8.toNat_inj.1 (by rw [c3]; rfl)
            rw [lenL, if_neg (by omega), if_neg (by omega), UInt8.ofNat_toNat, ey]
            have e2 : UInt8.ofNat ((256 * z.toNat + v.toNat) / 256) = z := by rw [show (256 * z.toNat + v.toNat) / 256 = z.toNat by omega]; exact UInt8.ofNat_toNat
            have e3 : UInt8.ofNat (256 * z.toNat + v.toNat) = v := by
              apply UInt8.toNat_inj.1
              rw [UInt8.toNat_ofNat']
              omega
            rw [e2, e3]
            rfl
          | [z], h => simp at h
          | [], h => simp at h
    | [x], _, h => simp at h
    | [], h, _ => simp at h
  have h2' : (wrX (rdTag s) (rdBody s) ++ rdRest s).data.toList = s.data.toList := by
    rw [hx, ByteArray.data_append, ByteArray.data_append, Array.toList_append, Array.toList_append, hw, g2, g3, Lib.extract_data, Lib.extract_data, Nat.add_sub_cancel_left]
    generalize rdA s.data.toList = A at *
    generalize rdN s.data.toList = N at *
    rw [List.take_of_length_le (l := s.data.toList.drop (A + N)) (by rw [List.length_drop]; omega), List.append_assoc, ← List.drop_drop, List.take_append_drop, List.take_append_drop]
  apply ByteArray.ext
  exact Array.toList_inj.1 h2'
end

section
open Go.RowKit Go.Sort
set_option maxRecDepth 100000
set_option linter.unusedSimpArgs false
set_option linter.unusedVariables false

/-- The eight bytes of a number, the highest first; without those that say nothing. -/
def byt8 (n : Int) (j : Nat) : UInt8 := UInt8.ofNat (n / 256 ^ (7 - j) % 256).toNat
def b8L (n : Int) : List UInt8 := (List.range 8).map fun j => byt8 n j
theorem b8L_length (n : Int) : (b8L n).length = 8 := by simp [b8L]
def trimL : List UInt8 → List UInt8
  | x :: y :: r => if (x.toNat = 0 ∧ y.toNat < 128) ∨ (x.toNat = 255 ∧ 128 ≤ y.toNat) then trimL (y :: r) else x :: y :: r
  | l => l
def intB (n : Int) : ByteArray := ⟨(trimL (b8L n)).toArray⟩
theorem b8L_snoc (n : Int) (k : Nat) (h : k < 8) : (b8L n).take (k + 1) = (b8L n).take k ++ [byt8 n k] := by
  rw [b8L, ← List.map_take, ← List.map_take, List.take_range, List.take_range, Nat.min_eq_left (by omega), Nat.min_eq_left (by omega), List.range_succ, List.map_append]
  rfl
theorem byt8_val (n : Int) (k : Nat) : ((byt8 n k).toNat : Int) = n / 256 ^ (7 - k) % 256 := by
  rw [byt8, UInt8.toNat_ofNat']
  have h := Int.emod_nonneg (n / 256 ^ (7 - k)) (show (256 : Int) ≠ 0 by decide)
  have h2 := Int.emod_lt_of_pos (n / 256 ^ (7 - k)) (show (0 : Int) < 256 by decide)
  omega
theorem pow_shift (k : Nat) (h : k < 8) : (2 : Int) ^ (8 * (7 - k)) = 256 ^ (7 - k) := by
  rw [show (256 : Int) = 2 ^ 8 from rfl, ← Int.pow_mul]

set_option maxHeartbeats 4000000 in
theorem rIntLoop_any (n : Int) (w : World) (h0 : -9223372036854775808 ≤ n) (h1 : n ≤ 9223372036854775807) :
    Calls Tryz.prog 64 #[.int .i64 n] w fun e w' => e = .returned (.string (wrX 2 (intB n))) ∧ Below w.heap.size w w' := by
  obtain ⟨i0, hi, hz0, hz1, hz2⟩ := info_parts info_u8
  have hb := Below.refl w.heap.size w
  go_enter Tryz.func64, Tryz.ntmps64
  go_wp2_with fail
  generalize hBB : w.heap.size = B at *
  have HBB := Lib.hid hBB
  clear hBB
  go_loopw [3, 4] (fun ov iv wr => ∃ (k : Nat) (ao : Option Addr) (cp : Nat), k ≤ 8 ∧ iv = .int .i64 (7 - (k : Int)) ∧ ov = .slice ao k cp ∧ Own wr B (.slice ao k cp) (Lib.byteCells ((b8L n).take k)) ∧ Below B w wr ∧ B ≤ wr.heap.size) (fun _ iv _ => (intOf iv + 1).toNat)
  case atStart => exact ⟨0, none, 0, by omega, rfl, rfl, Own.nil _ _, hb, by rw [← HBB.out]; exact hb.size⟩
  case round =>
    clear hb
    obtain ⟨k, ao, cp, hk, rfl, rfl, hown, hb, hB⟩ := hrel
    have HO := Lib.hid hown
    clear hown
    have HL := Lib.hid (show (Lib.byteCells ((b8L n).take k)).length = k from by rw [Lib.byteCells_length, List.length_take, b8L_length]; omega)
    by_cases hlt : k < 8
    · obtain ⟨i, hii⟩ : ∃ i, i = 7 - k := ⟨_, rfl⟩
      have hi7 : (7 : Int) - (k : Int) = (i : Int) := by omega
      have hd : decide ((0 : Int) ≤ (i : Int)) = true := by simp
      have HSn := Lib.hid (b8L_snoc n k hlt)
      have HV := Lib.hid (byt8_val n k)
      have hps := pow_shift k hlt
      rw [← hii] at hps HV
      have hs0 : (0 : Int) ≤ 8 * (i : Int) := by omega
      have hw8 : IntKind.i64.wrap (8 * (i : Int)) = 8 * (i : Int) := by rw [IntKind.wrap_i64]; omega
      have hT : ((8 : Int) * (i : Int)).toNat = 8 * i := by omega
      rw [hi7]
      go_wp2_with (at_builtin; refine wpList_append_sl rfl (.tmp 11) (.tmp 17) 41 rfl B 5 i0 (.int .u8 0) 1 Tryz.underlying41 hi hz0 hz1 hz2 rfl ao k cp _ rfl (HO.out.alloc _) HL.out ⟨_, 0, none⟩ 1 1 [.int .u8 _] rfl rfl (cell_one_new _ _ _) ?p2 ?p3 ?p4 ?p5 ?_)
      case p2 => intro u hu; simp at hu; subst hu; rfl
      case p3 => omega
      case p4 => omega
      case p5 => simp; omega
      intro ao7 cp7 W7 hown7 hgrow7
      have hb7 : Below B wr W7 := below_append ((Below.refl B wr).alloc hB _) (by simp; omega) (HO.out.alloc _) hgrow7
      have hB7 : B ≤ W7.heap.size := by have := hgrow7.size; simp at this; omega
      have hown8 : Own W7 B (.slice ao7 (k + 1) cp7) (Lib.byteCells ((b8L n).take (k + 1))) := by
        rw [HSn.out, Lib.byteCells_append]
        have e : Lib.byteCells [byt8 n k] = [.int .u8 (n / 2 ^ (8 * (7 - k)) % 256)] := by simp only [Lib.byteCells, List.map_cons, List.map_nil, byt8_val, pow_shift k hlt]
        rw [e]
        exact hown7
      have hb8 := hb.trans hb7
      clear hown7 hgrow7 HO HSn HV HL hps hs0 hw8 hT hb hb7 hii
      go_wp2_with fail
      go_roundw
      case rel => exact ⟨k + 1, ao7, cp7, by omega, by go_num, rfl, hown8, hb8, hB7⟩
      case measure => simp [intOf]; omega
    · have hd : decide ((0 : Int) ≤ (7 : Int) - (k : Int)) = false := by simp; omega
      obtain rfl : k = 8 := by omega
      have hown := HO.out
      rw [List.take_of_length_le (by rw [b8L_length]; exact Nat.le_refl _)] at hown
      obtain ⟨g, cp1, e1, hoG, _⟩ := hown.some (by rw [Lib.byteCells_length, b8L_length]; decide)
      rw [Lib.byteCells_length, b8L_length] at e1
      cases e1
      have hcp : 8 ≤ cp := by have := hoG.le; rwa [Lib.byteCells_length, b8L_length] at this
      have HG := Lib.hid hoG
      have HLN := Lib.hid (b8L_length n)
      have HIB : Hid (intB n = ⟨(trimL (b8L n)).toArray⟩) := Lib.hid rfl
      generalize b8L n = L at *
      generalize hio : intB n = ib at *
      have HIO := Lib.hid hio
      clear hio
      clear HO HL hown hoG hd
      go_wp2_with fail
      go_loopw [3] (fun ov wr2 => ∃ (j m c : Nat), j + m = 8 ∧ 1 ≤ m ∧ m ≤ c ∧ ov = .slice (some ⟨g, j, none⟩) m c ∧ Hid (trimL (L.drop j) = trimL L) ∧ wr2 = wr) (fun ov _ => (match ov with | .slice _ m _ => m | _ => 0))
      case atStart => exact ⟨0, 8, cp, rfl, by omega, hcp, rfl, Lib.hid rfl, rfl⟩
      case round =>
        obtain ⟨j, m, c, hjm, hm1, hmc, rfl, HT, rfl⟩ := hrel
        have hj : j < L.length := by rw [HLN.out]; omega
        have HD : Hid (L.drop j = L.getD j 0 :: L.drop (j + 1)) := Lib.hid (by rw [List.drop_eq_getElem_cons hj, List.getD_eq_getElem?_getD, List.getElem?_eq_getElem hj]; rfl)
        have HX := Lib.hid (conv_text wr g j c m (L.drop j) (by rw [List.length_drop, HLN.out]; omega) (fun i x hx => by
          rw [List.getElem?_drop] at hx
          exact HG.out.cells (j + i) _ (by simp [Lib.byteCells, hx])))
        by_cases c1 : m = 1
        · subst c1
          have d1 : decide ((1 : Int) < ((1 : Nat) : Int)) = false := by simp
          have ht := HX.out
          have hd1 : L.drop (j + 1) = [] := List.drop_of_length_le (by rw [HLN.out]; omega)
          have HF : Hid ((⟨(L.drop j).toArray⟩ : ByteArray) = ib) := Lib.hid (by rw [HIB.out, ← HT.out, HD.out, hd1]; rfl)
          rw [HF.out] at ht
          have CW := Lib.hid (fun W => rWrite_any 2 ib W (by decide) (by decide))
          have HXO : Hid (wrX 2 ib = wrX 2 (intB n)) := Lib.hid (by rw [HIO.out])
          generalize wrX 2 ib = xo at *
          generalize wrE 2 ib = xe at *
          clear HF HIB HG HLN HX HD HT hd1 hj
          go_wp2_with fail
          refine (CW.out _).mono ?_
          rintro e W1 ⟨rfl, bk⟩
          replace hb := hb.trans (bk.mono hB)
          clear bk CW
          go_wp2_with fail
          go_ret
          exact ⟨by first | (rw [← HXO.out]; done) | (rw [← HXO.out]; rfl), by rw [HBB.out]; exact hb⟩
        · have d1 : decide ((1 : Int) < (m : Int)) = true := by simp; omega
          have hj1 : j + 1 < L.length := by rw [HLN.out]; omega
          have HD1 : Hid (L.drop (j + 1) = L.getD (j + 1) 0 :: L.drop (j + 2)) := Lib.hid (by rw [List.drop_eq_getElem_cons hj1, List.getD_eq_getElem?_getD, List.getElem?_eq_getElem hj1]; rfl)
          have k0 : wr.cell? ⟨g, j, none⟩ = some (.int .u8 ((L.getD j 0).toNat : Int)) := (own_byte HG.out j hj).1
          have k1 : wr.cell? ⟨g, j + 1, none⟩ = some (.int .u8 ((L.getD (j + 1) 0).toNat : Int)) := (own_byte HG.out (j + 1) hj1).1
          have hx256 := (L.getD j 0).toNat_lt; have hy256 := (L.getD (j + 1) 0).toNat_lt
          have HC : Hid (trimL (L.drop j) = if ((L.getD j 0).toNat = 0 ∧ (L.getD (j + 1) 0).toNat < 128) ∨ ((L.getD j 0).toNat = 255 ∧ 128 ≤ (L.getD (j + 1) 0).toNat) then trimL (L.drop (j + 1)) else L.drop j) := Lib.hid (by rw [HD.out, HD1.out, trimL])
          generalize (L.getD j 0).toNat = x at k0 hx256 HC
          generalize (L.getD (j + 1) 0).toNat = y at k1 hy256 HC
          have hi0 : (0 : Int) < (m : Int) := by omega
          have hi1 : (1 : Int) < (m : Int) := by omega
          have hi2 : (1 : Int) ≤ (m : Int) := by omega
          by_cases a0 : x = 0
          · have f0 : ((x : Int) == 0) = true := by simp; omega
            have f1 : ((x : Int) == 255) = false := by simp; omega
            by_cases a1 : y < 128
            · have f2 : decide ((y : Int) < 128) = true := by simp; omega
              have HT2 := Lib.hid ((show trimL (L.drop j) = trimL (L.drop (j + 1)) by rw [HC.out, if_pos (by omega)]).symm.trans HT.out)
              clear HC HT HX HD HD1 hj hj1
              go_wp2_with fail
              go_roundw
              case rel => exact ⟨j + 1, m - 1, c - 1, by omega, by omega, by omega, by go_num, HT2, by first | rfl | trivial⟩
              case measure => simp; omega
            · have f2 : decide ((y : Int) < 128) = false := by simp; omega
              have ht := HX.out
              have HF : Hid ((⟨(L.drop j).toArray⟩ : ByteArray) = ib) := Lib.hid (by rw [HIB.out, ← HT.out, HC.out, if_neg (by omega)])
              rw [HF.out] at ht
              clear HC HT HX HD HD1 hj hj1
              have CW := Lib.hid (fun W => rWrite_any 2 ib W (by decide) (by decide))
              have HXO : Hid (wrX 2 ib = wrX 2 (intB n)) := Lib.hid (by rw [HIO.out])
              generalize wrX 2 ib = xo at *
              generalize wrE 2 ib = xe at *
              clear HF HIB HG HLN
              go_wp2_with fail
              refine (CW.out _).mono ?_
              rintro e W1 ⟨rfl, bk⟩
              replace hb := hb.trans (bk.mono hB)
              clear bk CW
              go_wp2_with fail
              go_ret
              exact ⟨by first | (rw [← HXO.out]; done) | (rw [← HXO.out]; rfl), by rw [HBB.out]; exact hb⟩
          have f0 : ((x : Int) == 0) = false := by simp; omega
          by_cases a2 : x = 255
          · have f1 : ((x : Int) == 255) = true := by simp; omega
            by_cases a1 : 128 ≤ y
            · have f2 : decide (128 ≤ (y : Int)) = true := by simp; omega
              have HT2 := Lib.hid ((show trimL (L.drop j) = trimL (L.drop (j + 1)) by rw [HC.out, if_pos (by omega)]).symm.trans HT.out)
              clear HC HT HX HD HD1 hj hj1
              go_wp2_with fail
              go_roundw
              case rel => exact ⟨j + 1, m - 1, c - 1, by omega, by omega, by omega, by go_num, HT2, by first | rfl | trivial⟩
              case measure => simp; omega
            · have f2 : decide (128 ≤ (y : Int)) = false := by simp; omega
              have ht := HX.out
              have HF : Hid ((⟨(L.drop j).toArray⟩ : ByteArray) = ib) := Lib.hid (by rw [HIB.out, ← HT.out, HC.out, if_neg (by omega)])
              rw [HF.out] at ht
              clear HC HT HX HD HD1 hj hj1
              have CW := Lib.hid (fun W => rWrite_any 2 ib W (by decide) (by decide))
              have HXO : Hid (wrX 2 ib = wrX 2 (intB n)) := Lib.hid (by rw [HIO.out])
              generalize wrX 2 ib = xo at *
              generalize wrE 2 ib = xe at *
              clear HF HIB HG HLN
              go_wp2_with fail
              refine (CW.out _).mono ?_
              rintro e W1 ⟨rfl, bk⟩
              replace hb := hb.trans (bk.mono hB)
              clear bk CW
              go_wp2_with fail
              go_ret
              exact ⟨by first | (rw [← HXO.out]; done) | (rw [← HXO.out]; rfl), by rw [HBB.out]; exact hb⟩
          · have f1 : ((x : Int) == 255) = false := by simp; omega
            have ht := HX.out
            have HF : Hid ((⟨(L.drop j).toArray⟩ : ByteArray) = ib) := Lib.hid (by rw [HIB.out, ← HT.out, HC.out, if_neg (by omega)])
            rw [HF.out] at ht
            clear HC HT HX HD HD1 hj hj1
            have CW := Lib.hid (fun W => rWrite_any 2 ib W (by decide) (by decide))
            have HXO : Hid (wrX 2 ib = wrX 2 (intB n)) := Lib.hid (by rw [HIO.out])
            generalize wrX 2 ib = xo at *
            generalize wrE 2 ib = xe at *
            clear HF HIB HG HLN
            go_wp2_with fail
            refine (CW.out _).mono ?_
            rintro e W1 ⟨rfl, bk⟩
            replace hb := hb.trans (bk.mono hB)
            clear bk CW
            go_wp2_with fail
            go_ret
            exact ⟨by first | (rw [← HXO.out]; done) | (rw [← HXO.out]; rfl), by rw [HBB.out]; exact hb⟩
end

section
set_option maxRecDepth 100000
set_option linter.unusedSimpArgs false
set_option linter.unusedVariables false

theorem rdB_cons (x : UInt8) (l : List UInt8) (k : Nat) : rdB (x :: l) (k + 1) = rdB l k := by
  rw [rdB, rdB, List.getD_cons_succ]
theorem rdB_zero (x : UInt8) (l : List UInt8) : rdB (x :: l) 0 = x.toNat := rfl
theorem riN_zero (l : List UInt8) : riN l 0 = if 128 ≤ rdB l 0 then -1 else 0 := rfl
theorem riN_succ (l : List UInt8) (k : Nat) : riN l (k + 1) = riN l k * 256 + (rdB l k : Int) := rfl
/-- A first byte that says nothing says nothing. -/
theorem riN_tail (x y : UInt8) (r : List UInt8) (h : (x.toNat = 0 ∧ y.toNat < 128) ∨ (x.toNat = 255 ∧ 128 ≤ y.toNat)) : ∀ k, riN (x :: y :: r) (k + 1) = riN (y :: r) k
  | 0 => by
    rw [riN_succ, riN_zero, riN_zero, rdB_zero, rdB_zero]
    rcases h with ⟨h1, h2⟩ | ⟨h1, h2⟩
    · rw [h1, if_neg (by omega), if_neg (by omega)]; rfl
    · rw [h1, if_pos (by omega), if_pos (by omega)]; rfl
  | k + 1 => by rw [riN_succ, riN_tail x y r h k, rdB_cons, ← riN_succ]
theorem trim_step (x y : UInt8) (r : List UInt8) : trimL (x :: y :: r) = if (x.toNat = 0 ∧ y.toNat < 128) ∨ (x.toNat = 255 ∧ 128 ≤ y.toNat) then trimL (y :: r) else x :: y :: r := rfl
theorem trim_val : ∀ (l : List UInt8), riN (trimL l) (trimL l).length = riN l l.length
  | [] => rfl
  | [x] => rfl
  | x :: y :: r => by
    rw [trim_step]
    split
    · rename_i h
      rw [trim_val (y :: r)]
      exact (riN_tail x y r h (y :: r).length).symm
    · rfl
theorem trim_size : ∀ (l : List UInt8), (trimL l).length ≤ l.length ∧ (l ≠ [] → trimL l ≠ [])
  | [] => ⟨Nat.le_refl _, fun h => h⟩
  | [x] => ⟨Nat.le_refl _, fun h => h⟩
  | x :: y :: r => by
    rw [trim_step]
    split
    · have h := trim_size (y :: r)
      exact ⟨Nat.le_trans h.1 (by simp), fun _ => h.2 (by simp)⟩
    · exact ⟨Nat.le_refl _, fun _ => by simp⟩
theorem riBad_two (x y : UInt8) (r : List UInt8) : riBad (x :: y :: r) ↔ (x.toNat = 0 ∧ y.toNat < 128) ∨ (x.toNat = 255 ∧ 128 ≤ y.toNat) :=
  ⟨fun h => h.2, fun h => ⟨by simp, h⟩⟩
theorem trim_good : ∀ (l : List UInt8), ¬ riBad (trimL l)
  | [] => fun h => by have := h.1; simp [trimL] at this
  | [x] => fun h => by have := h.1; simp [trimL] at this
  | x :: y :: r => by
    rw [trim_step]
    split
    · exact trim_good (y :: r)
    · rename_i h
      rwa [riBad_two]
/-- A list with nothing to spare is not of a number of fewer bytes. -/
theorem riN_wide (l : List UInt8) (h2 : 2 ≤ l.length) (hg : ¬ riBad l) : ∀ k, riN l (k + 2) < -(128 * 256 ^ k : Nat) ∨ (128 * 256 ^ k : Nat) ≤ riN l (k + 2)
  | 0 => by
    have a := rdB_lt l 0; have b := rdB_lt l 1
    have hn : ¬ ((rdB l 0 = 0 ∧ rdB l 1 < 128) ∨ (rdB l 0 = 255 ∧ 128 ≤ rdB l 1)) := fun h => hg ⟨by omega, h⟩
    rw [riN_succ, riN_succ, riN_zero]
    split <;> omega
  | k + 1 => by
    have b := rdB_lt l (k + 2)
    have ih := riN_wide l h2 hg k
    rw [riN_succ, Nat.pow_succ]
    omega
theorem riN_range (l : List UInt8) (k : Nat) (h : k + 1 = l.length) : -(128 * 256 ^ k : Nat) ≤ riN l l.length ∧ riN l l.length < (128 * 256 ^ k : Nat) := by
  rw [← h]; exact riN_bound l k
theorem riN_bytes (l m : List UInt8) : ∀ k, riN l k = riN m k → ∀ j, j < k → rdB l j = rdB m j
  | 0, _, j, hj => by omega
  | k + 1, h, j, hj => by
    rw [riN_succ, riN_succ] at h
    have a := rdB_lt l k; have b := rdB_lt m k
    have e : riN l k = riN m k := by omega
    by_cases c : j < k
    · exact riN_bytes l m k e j c
    · obtain rfl : j = k := by omega
      omega
theorem list_of_bytes (l m : List UInt8) (hl : l.length = m.length) (h : ∀ j, j < l.length → rdB l j = rdB m j) : l = m := by
  apply List.ext_getElem hl
  intro i h1 h2
  have := h i h1
  rw [rdB, rdB, List.getD_eq_getElem?_getD, List.getD_eq_getElem?_getD, List.getElem?_eq_getElem h1, List.getElem?_eq_getElem h2] at this
  exact UInt8.toNat_inj.1 this
/-- Lists with nothing to spare, of one number, are the same. -/
theorem riN_inj (l m : List UInt8) (hl : 1 ≤ l.length) (hm : 1 ≤ m.length) (gl : ¬ riBad l) (gm : ¬ riBad m) (h : riN l l.length = riN m m.length) : l = m := by
  have key : ∀ (a b : List UInt8), 1 ≤ a.length → a.length < b.length → ¬ riBad b → riN a a.length ≠ riN b b.length := fun a b ha hab gb e => by
    obtain ⟨i, hi⟩ : ∃ i, a.length = i + 1 := ⟨a.length - 1, by omega⟩
    obtain ⟨k, hk⟩ : ∃ k, b.length = k + 2 := ⟨b.length - 2, by omega⟩
    have r := riN_range a i hi.symm
    have u := riN_wide b (by omega) gb k
    rw [← hk, ← e] at u
    have hp : 256 ^ i ≤ 256 ^ k := Nat.pow_le_pow_right (by decide) (by omega)
    omega
  by_cases c : l.length = m.length
  · refine list_of_bytes l m c (riN_bytes l m l.length ?_)
    rw [h, c]
  · rcases Nat.lt_or_gt_of_ne c with d | d
    · exact absurd h (key l m hl d gm)
    · exact absurd h.symm (key m l hm d gl)
theorem b8L_at (n : Int) (k : Nat) (h : k < 8) : (rdB (b8L n) k : Int) = n / 256 ^ (7 - k) % 256 := by
  rw [← byt8_val, rdB, b8L, List.getD_eq_getElem?_getD, List.getElem?_map, List.getElem?_range h]
  rfl
theorem b8L_val (n : Int) (h0 : -9223372036854775808 ≤ n) (h1 : n ≤ 9223372036854775807) : ∀ k, k < 8 → riN (b8L n) (k + 1) = n / 256 ^ (7 - k)
  | 0, _ => by
    have a := b8L_at n 0 (by omega)
    have e : (256 : Int) ^ (7 - 0) = 72057594037927936 := by decide
    rw [riN_succ, riN_zero, e] at *
    split <;> omega
  | k + 1, h => by
    have ih := b8L_val n h0 h1 k (by omega)
    rw [riN_succ, ih, b8L_at n (k + 1) h]
    have e : (256 : Int) ^ (7 - k) = 256 ^ (7 - (k + 1)) * 256 := by rw [show 7 - k = (7 - (k + 1)) + 1 by omega, Int.pow_succ]
    rw [e, ← Int.ediv_ediv_of_nonneg (Int.pow_nonneg (by decide))]
    omega
/-- The bytes of a number: from 1 to 8, nothing to spare, read as it. -/
theorem intB_facts (n : Int) (h0 : -9223372036854775808 ≤ n) (h1 : n ≤ 9223372036854775807) : 1 ≤ (intB n).data.toList.length ∧ (intB n).data.toList.length ≤ 8 ∧ ¬ riBad (intB n).data.toList ∧ riN (intB n).data.toList (intB n).data.toList.length = n := by
  have e : (intB n).data.toList = trimL (b8L n) := rfl
  rw [e]
  have hs := trim_size (b8L n)
  have hne : b8L n ≠ [] := fun h => by have := b8L_length n; rw [h] at this; cases this
  refine ⟨?_, ?_, trim_good _, ?_⟩
  · have := List.length_pos_iff.2 (hs.2 hne); omega
  · have := hs.1; rw [b8L_length] at this; exact this
  · rw [trim_val, b8L_length, b8L_val n h0 h1 7 (by omega)]
    simp
theorem intB_size (n : Int) : (intB n).size ≤ 8 := by
  have h := (trim_size (b8L n)).1
  rw [b8L_length] at h
  exact h
/-- What is written is read. -/
theorem int_back (n : Int) (h0 : -9223372036854775808 ≤ n) (h1 : n ≤ 9223372036854775807) : riErr (intB n) = 0 ∧ riV (intB n) = n := by
  obtain ⟨a, b, c, d⟩ := intB_facts n h0 h1
  have e : riE (intB n).data.toList = 0 := by rw [riE, if_neg (by omega), if_neg c, if_neg (by omega)]
  exact ⟨e, by rw [riV, if_pos e, d]⟩
theorem ri_range (s : ByteArray) : -9223372036854775808 ≤ riV s ∧ riV s ≤ 9223372036854775807 := by
  rw [riV]
  split
  · rename_i h
    rw [riE] at h
    split at h
    · cases h
    split at h
    · cases h
    split at h
    · cases h
    rename_i a b c
    obtain ⟨k, hk⟩ : ∃ k, k + 1 = s.data.toList.length := ⟨s.data.toList.length - 1, by omega⟩
    have r := riN_range _ k hk
    have hp : 256 ^ k ≤ 256 ^ 7 := Nat.pow_le_pow_right (by decide) (by omega)
    have e7 : (256 : Nat) ^ 7 = 72057594037927936 := by decide
    omega
  · omega
/-- What is read is written again. -/
theorem back_int (s : ByteArray) (h : riErr s = 0) : intB (riV s) = s := by
  have r := ri_range s
  obtain ⟨a, b, c, d⟩ := intB_facts (riV s) r.1 r.2
  have hv : riV s = riN s.data.toList s.data.toList.length := if_pos h
  rw [riErr, riE] at h
  split at h
  · cases h
  split at h
  · cases h
  rename_i h1 h2
  have := riN_inj _ _ a (by omega) c h2 (d.trans hv)
  exact ByteArray.ext (Array.toList_inj.1 this)
/-- The body of a number's thing. -/
theorem int_wr (n : Int) : wrE 2 (intB n) = 0 := by
  have := intB_size n
  rw [wrE, if_pos (by decide), if_pos (by omega)]
end

section
set_option maxRecDepth 100000
set_option linter.unusedSimpArgs false
set_option linter.unusedVariables false

/-- The groups of a number, the highest first, each with the highest bit; no more than so many. -/
def hiL : Nat → Nat → List UInt8
  | 0, _ => []
  | f + 1, n => if n = 0 then [] else hiL f (n / 128) ++ [UInt8.ofNat (128 + n % 128)]
/-- A number in groups. -/
def grL (n : Nat) : List UInt8 := hiL 9 (n / 128) ++ [UInt8.ofNat (n % 128)]
theorem hiL_zero (f : Nat) : hiL f 0 = [] := by cases f <;> rfl
theorem hiL_fuel : ∀ (f n : Nat), n < 128 ^ f → hiL (f + 1) n = hiL f n
  | 0, n, h => by obtain rfl : n = 0 := (by simpa using h); rfl
  | f + 1, n, h => by
    rw [Nat.pow_succ] at h
    rw [show hiL (f + 1 + 1) n = if n = 0 then [] else hiL (f + 1) (n / 128) ++ [UInt8.ofNat (128 + n % 128)] from rfl, show hiL (f + 1) n = if n = 0 then [] else hiL f (n / 128) ++ [UInt8.ofNat (128 + n % 128)] from rfl, hiL_fuel f (n / 128) (by omega)]
theorem hiL_fuels (n : Nat) : ∀ (f d : Nat), n < 128 ^ f → hiL (f + d) n = hiL f n
  | f, 0, _ => rfl
  | f, d + 1, h => by
    have : 128 ^ f ≤ 128 ^ (f + d) := Nat.pow_le_pow_right (by decide) (by omega)
    rw [show f + (d + 1) = (f + d) + 1 by omega, hiL_fuel _ _ (by omega), hiL_fuels n f d h]
theorem hiL_length : ∀ (f n : Nat), (hiL f n).length ≤ f
  | 0, _ => Nat.le_refl _
  | f + 1, n => by
    rw [hiL]
    split
    · simp
    · have := hiL_length f (n / 128)
      rw [List.length_append]
      simp
      exact this
theorem grL_length (n : Nat) : 1 ≤ (grL n).length ∧ (grL n).length ≤ 10 := by
  have := hiL_length 9 (n / 128)
  rw [grL, List.length_append]
  simp
  omega
/-- A group more: the number so far, times 128, and the group. -/
theorem hiL_snoc (n b : Nat) (hb : b < 128) (hp : 0 < 128 * n + b) (hn : n < 128 ^ 8) : hiL 9 (128 * n + b) = hiL 9 n ++ [UInt8.ofNat (128 + b)] := by
  rw [show hiL 9 n = hiL 8 n from hiL_fuel 8 n hn, show hiL 9 (128 * n + b) = if 128 * n + b = 0 then [] else hiL 8 ((128 * n + b) / 128) ++ [UInt8.ofNat (128 + (128 * n + b) % 128)] from rfl, if_neg (by omega),
    show (128 * n + b) / 128 = n by omega, show (128 * n + b) % 128 = b by omega]
theorem grL_snoc (n b : Nat) (hb : b < 128) : grL (128 * n + b) = hiL 9 n ++ [UInt8.ofNat b] := by
  rw [grL, show (128 * n + b) / 128 = n by omega, show (128 * n + b) % 128 = b by omega]
/-- The numbers of bytes: of the value that is being read the number and how many groups, whether one was too long, the numbers so far; none if a value begins with 128. -/
def roF : List UInt8 → Nat → Nat → Bool → List Nat → Option (List Nat × Bool)
  | [], _, _, big, acc => some (acc, big)
  | b :: r, n, many, big, acc =>
    if many = 0 ∧ b.toNat = 128 then none else
      if b.toNat < 128 then roF r 0 0 (big || decide (4 < many + 1)) (acc ++ [if (big || decide (4 < many + 1)) = true then n else 128 * n + b.toNat % 128])
      else roF r (if (big || decide (4 < many + 1)) = true then n else 128 * n + b.toNat % 128) (many + 1) (big || decide (4 < many + 1)) acc
/-- The answers of ReadOid, for any text. -/
def roR (s : ByteArray) : Option (List Nat × Bool) := roF s.data.toList 0 0 false []
def roErr (s : ByteArray) : Int :=
  if s.size = 0 ∨ 128 ≤ rdB s.data.toList (s.size - 1) then 10 else
    match roR s with
    | none => 11
    | some (acc, big) => if big = true ∨ 19 < acc.length then 13 else 0
def firstOf (v : Nat) : List Int := if v / 40 < 2 then [((v / 40 : Nat) : Int), ((v % 40 : Nat) : Int)] else [2, (v : Int) - 80]
def namesOf : List Nat → List Int
  | [] => []
  | v :: r => firstOf v ++ List.map (fun x : Nat => (x : Int)) r
def roV (s : ByteArray) : List Int := if roErr s = 0 then (match roR s with | none => [] | some (acc, _) => namesOf acc) else []
/-- The answers of Oid, for any numbers. -/
def oidErr (zs : List Int) : Int :=
  if zs.length < 2 then 1 else if (zs.any fun z => decide (z < 0)) = true then 1 else
    if 2 < zs.getD 0 0 ∨ (zs.getD 0 0 < 2 ∧ 39 < zs.getD 1 0) ∨ 1000000 < zs.getD 1 0 then 1 else
      if 20 < zs.length then 13 else if ((zs.drop 2).any fun z => decide (268435455 < z)) = true then 13 else 0
def restL (zs : List Int) : List UInt8 := zs.flatMap fun z => grL z.toNat
def oidL (zs : List Int) : List UInt8 := grL (40 * zs.getD 0 0 + zs.getD 1 0).toNat ++ restL (zs.drop 2)
def oidB (zs : List Int) : ByteArray := ⟨(oidL zs).toArray⟩
def oidX (zs : List Int) : ByteArray := if oidErr zs = 0 then wrX 6 (oidB zs) else ⟨#[]⟩
theorem restL_length : ∀ (zs : List Int), (restL zs).length ≤ 10 * zs.length
  | [] => Nat.le_refl _
  | z :: r => by
    have := restL_length r; have := (grL_length z.toNat).2
    rw [restL, List.flatMap_cons, List.length_append, List.length_cons, ← restL]
    omega
theorem oidB_size (zs : List Int) (h : zs.length ≤ 20) : (oidB zs).size ≤ 210 := by
  have a := restL_length (zs.drop 2); have b := (grL_length (40 * zs.getD 0 0 + zs.getD 1 0).toNat).2
  rw [List.length_drop] at a
  show (oidL zs).length ≤ 210
  rw [oidL, List.length_append]
  omega
theorem oid_wr (zs : List Int) (h : zs.length ≤ 20) : wrE 6 (oidB zs) = 0 := by
  have := oidB_size zs h
  rw [wrE, if_pos (by decide), if_pos (by omega)]
/-- What is read of a value's groups but the last, written: the state behind them. -/
theorem roF_hi : ∀ (f n : Nat) (r : List UInt8) (acc : List Nat), f ≤ 3 → n < 128 ^ f → ∃ m, m ≤ f ∧ (m = 0 ↔ n = 0) ∧ roF (hiL f n ++ r) 0 0 false acc = roF r n m false acc
  | 0, n, r, acc, _, h => ⟨0, Nat.le_refl _, by have h0 : n = 0 := (by simpa using h); simp [h0], by obtain rfl : n = 0 := (by simpa using h); rfl⟩
  | f + 1, n, r, acc, hf, h => by
    rw [Nat.pow_succ] at h
    by_cases c : n = 0
    · subst c; exact ⟨0, by omega, by simp, by rw [hiL_zero]; rfl⟩
    · obtain ⟨m, h1, h2, h3⟩ := roF_hi f (n / 128) ([UInt8.ofNat (128 + n % 128)] ++ r) acc (by omega) (by omega)
      have hb : (UInt8.ofNat (128 + n % 128)).toNat = 128 + n % 128 := by rw [UInt8.toNat_ofNat']; omega
      refine ⟨m + 1, by omega, by omega, ?_⟩
      rw [hiL, if_neg c, List.append_assoc, h3, List.singleton_append, roF, hb, if_neg (by omega), if_neg (by omega)]
      have hd : decide (4 < m + 1) = false := decide_eq_false (by omega)
      rw [hd, Bool.or_false, if_neg Bool.false_ne_true, show 128 * (n / 128) + (128 + n % 128) % 128 = n by omega]
theorem roF_gr (n : Nat) (h : n ≤ 268435455) (r : List UInt8) (acc : List Nat) : roF (grL n ++ r) 0 0 false acc = roF r 0 0 false (acc ++ [n]) := by
  have e3 : (128 : Nat) ^ 3 = 2097152 := by decide
  obtain ⟨m, h1, h2, h3⟩ := roF_hi 3 (n / 128) ([UInt8.ofNat (n % 128)] ++ r) acc (by omega) (by omega)
  have hb : (UInt8.ofNat (n % 128)).toNat = n % 128 := by rw [UInt8.toNat_ofNat']; omega
  have hd : decide (4 < m + 1) = false := decide_eq_false (by omega)
  rw [grL, show (9 : Nat) = 3 + 6 from rfl, hiL_fuels _ 3 6 (by omega), List.append_assoc, h3, List.singleton_append, roF, hb, if_neg (by omega), if_pos (by omega), hd, Bool.or_false, if_neg Bool.false_ne_true,
    show 128 * (n / 128) + n % 128 % 128 = n by omega]
theorem roF_rest : ∀ (ns acc : List Nat), (∀ n ∈ ns, n ≤ 268435455) → roF (ns.flatMap grL) 0 0 false acc = some (acc ++ ns, false)
  | [], acc, _ => by rw [List.append_nil]; rfl
  | n :: r, acc, h => by
    rw [List.flatMap_cons, roF_gr n (h n (by simp)), roF_rest r (acc ++ [n]) (fun x hx => h x (by simp [hx])), List.append_assoc]
    rfl
/-- What was read is what is written of it: the state says which bytes were read. -/
theorem roF_back : ∀ (r : List UInt8) (n m : Nat) (acc : List Nat) (pre : List UInt8) (out : List Nat), n < 128 ^ m → m ≤ 4 → (m = 0 ↔ n = 0) → pre = acc.flatMap grL ++ hiL 9 n → (∀ x ∈ acc, x ≤ 268435455) →
    roF r n m false acc = some (out, false) → (∀ b, (pre ++ r).getLast? = some b → b.toNat < 128) → pre ++ r = out.flatMap grL ∧ ∀ x ∈ out, x ≤ 268435455
  | [], n, m, acc, pre, out, hn, hm, hz, hp, ha, h, hl => by
    rw [roF] at h
    obtain ⟨rfl, _⟩ := Prod.mk.inj (Option.some.inj h)
    rw [List.append_nil] at *
    have hn0 : n = 0 := by
      by_cases c : n = 0
      · exact c
      · exfalso
        rw [hp, show hiL 9 n = if n = 0 then [] else hiL 8 (n / 128) ++ [UInt8.ofNat (128 + n % 128)] from rfl, if_neg c, ← List.append_assoc] at hl
        have := hl _ List.getLast?_concat
        rw [UInt8.toNat_ofNat'] at this
        omega
    subst hn0
    rw [hiL_zero, List.append_nil] at hp
    exact ⟨hp, ha⟩
  | b :: r, n, m, acc, pre, out, hn, hm, hz, hp, ha, h, hl => by
    have hb := b.toNat_lt
    have hbo : ∀ k, b.toNat = k → b = UInt8.ofNat k := fun k hk => by rw [← hk, UInt8.ofNat_toNat]
    have p4 : 128 ^ m ≤ 128 ^ 4 := Nat.pow_le_pow_right (by decide) hm
    have e4 : (128 : Nat) ^ 4 = 268435456 := by decide
    have e8 : (128 : Nat) ^ 8 = 72057594037927936 := by decide
    rw [roF] at h
    split at h
    · cases h
    rename_i h1
    by_cases c4 : 4 < m + 1
    · -- too long: it stays so
      exfalso
      rw [decide_eq_true c4, Bool.or_true] at h
      have stays : ∀ (r : List UInt8) (n m : Nat) (acc : List Nat) (out : List Nat), roF r n m true acc ≠ some (out, false) := by
        intro r
        induction r with
        | nil => intro n m acc out h; rw [roF] at h; cases h
        | cons b r ih =>
          intro n m acc out h
          rw [roF] at h
          split at h
          · cases h
          rw [Bool.true_or] at h
          split at h
          · exact ih _ _ _ _ h
          · exact ih _ _ _ _ h
      split at h
      · exact stays _ _ _ _ _ h
      · exact stays _ _ _ _ _ h
    · rw [decide_eq_false c4, Bool.or_false, if_neg Bool.false_ne_true] at h
      split at h
      · rename_i h2
        rw [Nat.mod_eq_of_lt h2] at h
        have hv : 128 * n + b.toNat ≤ 268435455 := by
          have : 128 ^ m ≤ 128 ^ 3 := Nat.pow_le_pow_right (by decide) (by omega)
          have e3 : (128 : Nat) ^ 3 = 2097152 := by decide
          omega
        have hr := roF_back r 0 0 (acc ++ [128 * n + b.toNat]) (pre ++ [b]) out (by decide) (by omega) (by simp) (by
            rw [hiL_zero, List.append_nil, List.flatMap_append, List.flatMap_cons, List.flatMap_nil, List.append_nil, grL_snoc n b.toNat h2, ← List.append_assoc, ← hp, ← hbo _ rfl]) (fun x hx => by
            rcases List.mem_append.1 hx with hx | hx
            · exact ha x hx
            · rw [List.mem_singleton.1 hx]; exact hv) h (fun b' hb' => hl b' (by rw [← hb', List.append_assoc]; rfl))
        rwa [List.append_assoc] at hr
      · rename_i h2
        have hbm : b.toNat % 128 + 128 = b.toNat := by omega
        have hpos : 0 < 128 * n + b.toNat % 128 := by
          by_cases c : m = 0
          · have : b.toNat ≠ 128 := fun e => h1 ⟨c, e⟩
            omega
          · have : n ≠ 0 := fun e => c (hz.2 e)
            omega
        have hr := roF_back r (128 * n + b.toNat % 128) (m + 1) acc (pre ++ [b]) out (by rw [Nat.pow_succ]; omega) (by omega) (by omega) (by
            rw [hiL_snoc n (b.toNat % 128) (by omega) hpos (by omega), ← List.append_assoc, ← hp, ← hbo (128 + b.toNat % 128) (by omega)]) ha h (fun b' hb' => hl b' (by rw [← hb', List.append_assoc]; rfl))
        rwa [List.append_assoc] at hr
theorem last_small : ∀ (ns : List Nat), ns ≠ [] → ∃ p n, ns.flatMap grL = p ++ [UInt8.ofNat (n % 128)]
  | [], h => absurd rfl h
  | [n], _ => ⟨hiL 9 (n / 128), n, by rw [List.flatMap_cons, List.flatMap_nil, List.append_nil]; rfl⟩
  | n :: m :: r, _ => by
    obtain ⟨p, k, h⟩ := last_small (m :: r) (by simp)
    exact ⟨grL n ++ p, k, by rw [List.flatMap_cons, h, List.append_assoc]⟩
theorem restL_nat (zs : List Int) : restL zs = (zs.map Int.toNat).flatMap grL := by
  rw [restL, List.flatMap_map]
theorem oidErr_facts (a b : Int) (r : List Int) (h : oidErr (a :: b :: r) = 0) : 0 ≤ a ∧ 0 ≤ b ∧ (∀ z ∈ r, 0 ≤ z ∧ z ≤ 268435455) ∧ a ≤ 2 ∧ (a < 2 → b ≤ 39) ∧ b ≤ 1000000 ∧ r.length ≤ 18 := by
  rw [oidErr] at h
  split at h
  · cases h
  split at h
  · cases h
  split at h
  · cases h
  split at h
  · cases h
  split at h
  · cases h
  rename_i h1 h2 h3 h4 h5
  simp only [List.any_cons, List.any_eq_true, Bool.or_eq_true, decide_eq_true_eq, not_or, not_exists, not_and, List.drop_succ_cons, List.drop_zero, List.getD_cons_zero, List.getD_cons_succ, List.length_cons] at h2 h3 h4 h5
  exact ⟨by omega, by omega, fun z hz => ⟨by have := h2.2.2 z hz; omega, by have := h5 z hz; omega⟩, by omega, by omega, by omega, by omega⟩
theorem oidErr_zero (a b : Int) (r : List Int) (h0 : 0 ≤ a) (h1 : 0 ≤ b) (h2 : ∀ z ∈ r, 0 ≤ z ∧ z ≤ 268435455) (h3 : a ≤ 2) (h4 : a < 2 → b ≤ 39) (h5 : b ≤ 1000000) (h6 : r.length ≤ 18) : oidErr (a :: b :: r) = 0 := by
  rw [oidErr, if_neg (by simp), if_neg, if_neg, if_neg, if_neg]
  · simp only [List.any_eq_true, decide_eq_true_eq, not_exists, not_and, List.drop_succ_cons, List.drop_zero]
    intro z hz; have := h2 z hz; omega
  · simp; omega
  · simp only [List.getD_cons_zero, List.getD_cons_succ]
    omega
  · simp only [List.any_cons, List.any_eq_true, Bool.or_eq_true, decide_eq_true_eq, not_or, not_exists, not_and]
    exact ⟨by omega, by omega, fun z hz => by have := h2 z hz; omega⟩
theorem map_back (r : List Int) (h : ∀ z ∈ r, 0 ≤ z ∧ z ≤ 268435455) : List.map (fun x : Nat => (x : Int)) (r.map Int.toNat) = r := by
  rw [List.map_map]
  conv => rhs; rw [← List.map_id r]
  apply List.map_congr_left
  intro z hz
  have := h z hz
  simp
  omega
/-- What is written is read. -/
theorem oid_back (zs : List Int) (h : oidErr zs = 0) : roErr (oidB zs) = 0 ∧ roV (oidB zs) = zs := by
  match zs, h with
  | [], h => cases h
  | [_], h => cases h
  | a :: b :: r, h =>
    obtain ⟨ha, hb, hr, ha2, hab, hb6, hlen⟩ := oidErr_facts a b r h
    have hv : (40 * a + b).toNat ≤ 268435455 := by omega
    have hl : (oidB (a :: b :: r)).data.toList = ((40 * a + b).toNat :: r.map Int.toNat).flatMap grL := by
      show oidL (a :: b :: r) = _
      rw [oidL, List.flatMap_cons, restL_nat]
      rfl
    have hR : roR (oidB (a :: b :: r)) = some ((40 * a + b).toNat :: r.map Int.toNat, false) := by
      rw [roR, hl, roF_rest _ [] (fun n hn => by
        rcases List.mem_cons.1 hn with rfl | hn
        · exact hv
        · obtain ⟨z, hz, rfl⟩ := List.mem_map.1 hn
          have := hr z hz
          omega)]
      rfl
    obtain ⟨p, k, hp⟩ := last_small ((40 * a + b).toNat :: r.map Int.toNat) (by simp)
    have hs : (oidB (a :: b :: r)).size = p.length + 1 := by rw [Lib.size_eq, hl, hp, List.length_append]; rfl
    have hlast : rdB (oidB (a :: b :: r)).data.toList ((oidB (a :: b :: r)).size - 1) = k % 128 := by
      rw [hs, hl, hp, rdB, List.getD_eq_getElem?_getD, Nat.add_sub_cancel, List.getElem?_append_right (Nat.le_refl _), Nat.sub_self]
      show (UInt8.ofNat (k % 128)).toNat = k % 128
      rw [UInt8.toNat_ofNat']
      omega
    have e : roErr (oidB (a :: b :: r)) = 0 := by
      rw [roErr, if_neg (by rw [hlast, hs]; omega), hR]
      show (if false = true ∨ 19 < ((40 * a + b).toNat :: r.map Int.toNat).length then (13 : Int) else 0) = 0
      rw [if_neg (by simp; omega)]
    refine ⟨e, ?_⟩
    rw [roV, if_pos e, hR]
    show firstOf (40 * a + b).toNat ++ List.map (fun x : Nat => (x : Int)) (r.map Int.toNat) = a :: b :: r
    rw [map_back r hr, firstOf]
    by_cases c : a < 2
    · have := hab c
      rw [if_pos (by omega), show (((40 * a + b).toNat / 40 : Nat) : Int) = a by omega, show (((40 * a + b).toNat % 40 : Nat) : Int) = b by omega]
      rfl
    · rw [if_neg (by omega), show (((40 * a + b).toNat : Nat) : Int) - 80 = b by omega, show (2 : Int) = a by omega]
      rfl
theorem ro_facts (s : ByteArray) (h : roErr s = 0) : ∃ v r, roR s = some (v :: r, false) ∧ r.length ≤ 18 ∧ s.data.toList = (v :: r).flatMap grL ∧ (∀ x ∈ v :: r, x ≤ 268435455) ∧ roV s = firstOf v ++ List.map (fun x : Nat => (x : Int)) r := by
  have h0 := h
  rw [roErr] at h
  split at h
  · cases h
  rename_i h1
  split at h
  · cases h
  rename_i acc big hR
  split at h
  · cases h
  rename_i h2
  have hbig : big = false := by cases big <;> simp_all
  subst hbig
  have hF := hR
  rw [roR] at hF
  have hs : s.data.toList.length = s.size := (Lib.size_eq s).symm
  obtain ⟨e, hx⟩ := roF_back s.data.toList 0 0 [] [] acc (by decide) (by omega) (by simp) rfl (by simp) hF (fun b hb => by
    rw [List.nil_append, List.getLast?_eq_getElem?, hs] at hb
    have : rdB s.data.toList (s.size - 1) = b.toNat := by rw [rdB, List.getD_eq_getElem?_getD, hb]; rfl
    omega)
  rw [List.nil_append] at e
  match acc, hR, h2, e, hx with
  | [], _, _, e, _ =>
    exfalso
    rw [e] at hs
    have : s.size = 0 := hs.symm
    omega
  | v :: r, hR, h2, e, hx =>
    refine ⟨v, r, hR, by simp at h2; omega, e, hx, ?_⟩
    rw [roV, if_pos h0, hR]
    rfl
/-- What is read is written again. -/
theorem back_oid (s : ByteArray) (h : roErr s = 0) (h1 : (roV s).getD 1 0 ≤ 1000000) : oidErr (roV s) = 0 ∧ oidB (roV s) = s := by
  obtain ⟨v, r, hR, hlen, hl, hx, hV⟩ := ro_facts s h
  have hrr : ∀ z ∈ List.map (fun x : Nat => (x : Int)) r, 0 ≤ z ∧ z ≤ 268435455 := fun z hz => by
    obtain ⟨x, hxr, rfl⟩ := List.mem_map.1 hz
    have := hx x (by simp [hxr])
    omega
  have hrest : restL (List.map (fun x : Nat => (x : Int)) r) = r.flatMap grL := by
    rw [restL, List.flatMap_map]
    rfl
  have fin : ∀ a b : Int, firstOf v = [a, b] → 0 ≤ a → 0 ≤ b → a ≤ 2 → (a < 2 → b ≤ 39) → (40 * a + b).toNat = v → oidErr (roV s) = 0 ∧ oidB (roV s) = s := fun a b e ha hb ha2 hab hv => by
    rw [hV, e] at h1 ⊢
    refine ⟨oidErr_zero a b _ ha hb hrr ha2 hab (by simpa using h1) (by simpa using hlen), ?_⟩
    apply ByteArray.ext
    apply Array.toList_inj.1
    rw [hl, List.flatMap_cons]
    show grL (40 * a + b).toNat ++ restL (List.map (fun x : Nat => (x : Int)) r) = _
    rw [hv, hrest]
  by_cases c : v / 40 < 2
  · exact fin _ _ (by rw [firstOf, if_pos c]) (by omega) (by omega) (by omega) (by omega) (by omega)
  · exact fin _ _ (by rw [firstOf, if_neg c]) (by omega) (by omega) (by omega) (by omega) (by omega)
end

section
open Go.RowKit Go.Sort
set_option maxRecDepth 100000
set_option linter.unusedSimpArgs false
set_option linter.unusedVariables false

/-- A slice's numbers. -/
def IntsAt (W : World) (ao : Option Addr) (zs : List Int) : Prop := ∀ j, j < zs.length → ∃ g off, ao = some ⟨g, off, none⟩ ∧ W.cell? ⟨g, off + j, none⟩ = some (.int .i64 (zs.getD j 0))
theorem IntsAt.step {W W' : World} {ao : Option Addr} {zs : List Int} (h : IntsAt W ao zs) (hb : Below W.heap.size W W') : IntsAt W' ao zs := fun j hj => by
  obtain ⟨g, off, ha, hc⟩ := h j hj
  exact ⟨g, off, ha, (hb.cell (block_lt_of_cell hc)).trans hc⟩
theorem IntsAt.nil (W : World) (ao : Option Addr) : IntsAt W ao [] := fun j hj => by cases hj
def iCells (zs : List Int) : List Value := zs.map fun z => .int .i64 z
theorem iCells_length (zs : List Int) : (iCells zs).length = zs.length := List.length_map _
theorem iCells_append (a b : List Int) : iCells (a ++ b) = iCells a ++ iCells b := List.map_append
theorem iCells_at (zs : List Int) (j : Nat) (h : j < zs.length) : (iCells zs)[j]? = some (.int .i64 (zs.getD j 0)) := by
  simp [iCells, List.getElem?_eq_getElem h, List.getD_eq_getElem?_getD]
theorem IntsAt.own {W : World} {base n c : Nat} {ao : Option Addr} {zs : List Int} (h : Own W base (.slice ao n c) (iCells zs)) (hn : zs.length = n) : IntsAt W ao zs := fun j hj => by
  obtain ⟨g, cp, e, ho, _⟩ := h.some (by rw [iCells_length]; omega)
  cases e
  exact ⟨g, 0, rfl, by rw [Nat.zero_add]; exact ho.cells j _ (iCells_at zs j hj)⟩
theorem told_q {P : Program} {w : World} {v : Value} {r : Result Next} (h : sQuiet P w v r) : toldQuiet P w (Told.val v) r := by
  cases r with
  | ok n w' =>
    cases n <;> simp only [sQuiet] at h <;> simp only [toldQuiet]
    case value u => obtain ⟨rfl, rfl⟩ := h; exact ⟨Below.refl _ _, rfl⟩
    case enter f args =>
      obtain ⟨rfl, hc⟩ := h
      exact ⟨rfl, hc.mono fun e w'' ⟨he, hb⟩ => ⟨v, he, rfl, hb⟩⟩
  | halt x w' => simp only [sQuiet] at h

end

section
open Go.RowKit Go.Sort
set_option maxRecDepth 100000
set_option linter.unusedSimpArgs false
set_option linter.unusedVariables false

theorem byteC (k : Nat) (h : k < 256) : Lib.byteCells [UInt8.ofNat k] = [.int .u8 (k : Int)] := by
  simp only [Lib.byteCells, List.map_cons, List.map_nil, cell_byte k h]
theorem group_step (m : Nat) (h : 0 < m) : ∀ f, m < 128 ^ f → ∃ f', f = f' + 1 ∧ hiL f m = hiL f' (m / 128) ++ [UInt8.ofNat (128 + m % 128)] ∧ m / 128 < 128 ^ f'
  | 0, hm => by simp at hm; omega
  | f + 1, hm => ⟨f, rfl, by rw [hiL, if_neg (by omega)], by rw [Nat.pow_succ] at hm; omega⟩
set_option maxHeartbeats 4000000 in
theorem rgroup_any (n : Nat) (w : World) (hn : n < 9223372036854775808) :
    Calls Tryz.prog 177 #[.int .i64 (n : Int)] w fun e w' => e = .returned (.string ⟨(grL n).toArray⟩) ∧ Below w.heap.size w w' := by
  obtain ⟨i0, hi, hz0, hz1, hz2⟩ := info_parts info_u8
  have hb := Below.refl w.heap.size w
  have e8 : (128 : Nat) ^ 9 = 9223372036854775808 := by decide
  have HO0 := Lib.hid (show (w.alloc (.cells #[.int .u8 ((n : Int) % 128)] 5)).ownsRow w.heap.size 5 1 (.slice (some ⟨w.heap.size, 0, none⟩) 1 1) 1 [.int .u8 ((n : Int) % 128)] from
    ⟨rfl, .inr ⟨w.heap.size, 1, _, rfl, Nat.le_refl _, blk_new w _, by omega, by unfold maxLen; omega, rfl, rfl⟩⟩)
  have hb1 : Below w.heap.size w (w.alloc (.cells #[.int .u8 ((n : Int) % 128)] 5)) := hb.alloc hb.size _
  have hsz1 : w.heap.size ≤ (w.alloc (.cells #[.int .u8 ((n : Int) % 128)] 5)).heap.size := hb1.size
  have HOw : Hid (Own (w.alloc (.cells #[.int .u8 ((n : Int) % 128)] 5)) w.heap.size (.slice (some ⟨w.heap.size, 0, none⟩) 1 1) (Lib.byteCells [UInt8.ofNat (n % 128)])) := Lib.hid (by
    rw [byteC _ (by omega), show ((n % 128 : Nat) : Int) = (n : Int) % 128 by simp]
    exact (own_of_row HO0.out).1)
  have HG : Hid (hiL 9 (n / 128) ++ [UInt8.ofNat (n % 128)] = grL n) := Lib.hid rfl
  clear HO0
  go_enter Tryz.func177, Tryz.ntmps177
  go_wp2_with fail
  generalize (w.alloc _) = W0 at *
  generalize hBB : w.heap.size = B at *
  have HBB := Lib.hid hBB
  clear hBB
  obtain ⟨G, hGG⟩ : ∃ G, grL n = G := ⟨_, rfl⟩
  rw [hGG] at HG
  have HGG := Lib.hid hGG
  clear hGG
  go_loopw [0, 3, 4] (fun nv ov mv wr => ∃ (m f : Nat) (ao : Option Addr) (cp k : Nat) (l : List UInt8), m ≤ n ∧ l.length = k ∧ k + f ≤ 10 ∧ m < 128 ^ f ∧ Hid (hiL f m ++ l = G) ∧ nv = .int .i64 (m : Int) ∧ ov = .slice ao k cp ∧ Own wr B (.slice ao k cp) (Lib.byteCells l) ∧ 1 ≤ k ∧ Below B w wr ∧ B ≤ wr.heap.size) (fun nv _ _ _ => (intOf nv).toNat)
  case atStart => exact ⟨n / 128, 9, _, 1, 1, [UInt8.ofNat (n % 128)], by omega, rfl, by omega, by omega, HG, by simp, rfl, HOw.out, by omega, hb1, hsz1⟩
  case round =>
    clear hb hb1 HOw HG hsz1
    obtain ⟨m, f, ao, cp, k, l, hmn, hl, hkf, hm, HG, rfl, rfl, hown, hk1, hb, hB⟩ := hrel
    have HO := Lib.hid hown
    clear hown
    have HL := Lib.hid (show (Lib.byteCells l).length = k by rw [Lib.byteCells_length]; exact hl)
    by_cases h0 : 0 < m
    · have hd : decide ((0 : Int) < (m : Int)) = true := by simp; omega
      obtain ⟨f', rfl, e1, e2⟩ := group_step m h0 f hm
      have hw : IntKind.u8.wrap (128 + (m : Int) % 128) = 128 + (m : Int) % 128 := by rw [IntKind.wrap_u8]; omega
      have HG2 : Hid (hiL f' (m / 128) ++ (UInt8.ofNat (128 + m % 128) :: l) = G) := Lib.hid (by rw [← HG.out, e1, List.append_assoc]; rfl)
      have HC : Hid (Lib.byteCells [UInt8.ofNat (128 + m % 128)] = [.int .u8 (128 + (m : Int) % 128)]) := Lib.hid (by rw [byteC _ (by omega)]; simp)
      clear e1 HG
      generalize UInt8.ofNat (128 + m % 128) = bb at *
      go_wp2_with (at_builtin; refine wpList_append_sl rfl (.tmp 13) (.tmp 18) 41 rfl B 5 i0 (.int .u8 0) 1 Tryz.underlying41 hi hz0 hz1 hz2 rfl none 0 0 [] rfl (Own.nil _ _) rfl ⟨_, 0, none⟩ 1 1 [.int .u8 _] rfl rfl (cell_one_new _ _ _) ?p2 ?p3 ?p4 ?p5 ?_)
      case p2 => intro u hu; simp at hu; subst hu; rfl
      case p3 => omega
      case p4 => omega
      case p5 => simp; omega
      intro ao7 cp7 W7 hown7 hgrow7
      have hb6 : Below wr.heap.size wr W7 := ((Below.refl wr.heap.size wr).alloc (Nat.le_refl _) _).grown hgrow7 (by simp) (fun k hk => by simp [Value.ownBlock] at hk)
      have hown8 : Own W7 B (.slice ao7 1 cp7) (Lib.byteCells [bb]) := by rw [HC.out]; exact hown7
      have hb7 := hb.trans (hb6.mono hB)
      have hB7 : B ≤ W7.heap.size := Nat.le_trans hB hb6.size
      have HO7 := Lib.hid (HO.out.below hb6)
      have HM := Lib.hid hown8
      clear hown7 hown8 hgrow7 HO hb
      obtain ⟨g, cq, e, hoG, _⟩ := HO7.out.some (by rw [HL.out]; omega)
      rw [HL.out] at e
      cases e
      have HGc := Lib.hid (show ∀ j u, (Lib.byteCells l)[j]? = some u → W7.cell? ((⟨g, 0, none⟩ : Addr).add j) = some u from fun j u hj => by
        have hadd : (⟨g, 0, none⟩ : Addr).add j = ⟨g, j, none⟩ := by unfold Addr.add; split <;> simp_all
        rw [hadd]
        exact hoG.cells j u hj)
      clear hoG HO7
      go_wp2_with (at_builtin; refine wpList_append_sl rfl (.tmp 20) (.tmp 21) 41 rfl B 5 i0 (.int .u8 0) 1 Tryz.underlying41 hi hz0 hz1 hz2 rfl ao7 1 cp7 (Lib.byteCells [bb]) rfl HM.out rfl ⟨g, 0, none⟩ k cp (Lib.byteCells l) rfl HL.out HGc.out ?q2 ?q3 ?q4 hB7 ?_)
      case q2 => intro u hu; simp [Lib.byteCells] at hu; obtain ⟨x, _, rfl⟩ := hu; rfl
      case q3 => omega
      case q4 => omega
      intro ao8 cp8 W8 hown9 hgrow8
      have hb8 : Below B w W8 := below_append hb7 hB7 HM.out hgrow8
      have hB8 : B ≤ W8.heap.size := Nat.le_trans hB7 hgrow8.size
      have hown10 : Own W8 B (.slice ao8 (1 + k) cp8) (Lib.byteCells (bb :: l)) := by
        rw [show bb :: l = [bb] ++ l from rfl, Lib.byteCells_append]
        exact hown9
      clear hown9 hgrow8 HM HGc HL HC hb7
      go_wp2_with fail
      go_roundw
      case rel => exact ⟨m / 128, f', ao8, cp8, 1 + k, _, by omega, by simp; omega, by omega, e2, HG2, by go_num, rfl, hown10, by omega, hb8, hB8⟩
      case measure => simp [intOf]; omega
    · obtain rfl : m = 0 := by omega
      have hd : decide ((0 : Int) < ((0 : Nat) : Int)) = false := by simp
      obtain ⟨g, cq, e, hoG, _⟩ := HO.out.some (by rw [HL.out]; omega)
      rw [HL.out] at e
      cases e
      have ht := conv_text_own hoG hl cp
      have HT : Hid (l = G) := Lib.hid (by rw [← HG.out, hiL_zero]; rfl)
      obtain ⟨L, hL⟩ : ∃ L, (⟨l.toArray⟩ : ByteArray) = L := ⟨_, rfl⟩
      have HLL : Hid (L = ⟨(grL n).toArray⟩) := Lib.hid (by rw [← hL, HGG.out, HT.out])
      rw [hL] at ht
      clear hL
      clear hoG HO HL HG HT
      go_wp2_with fail
      go_ret
      exact ⟨by first | (rw [HLL.out]; done) | (rw [HLL.out]; rfl), by rw [HBB.out]; exact hb⟩
end

section
open Go.RowKit Go.Sort
set_option maxRecDepth 100000
set_option linter.unusedSimpArgs false
set_option linter.unusedVariables false

theorem rgroupZ_any (z : Int) (w : World) (h0 : 0 ≤ z) (h1 : z ≤ 9223372036854775807) :
    Calls Tryz.prog 177 #[.int .i64 z] w fun e w' => e = .returned (.string ⟨(grL z.toNat).toArray⟩) ∧ Below w.heap.size w w' := by
  have h := rgroup_any z.toNat w (by omega)
  rwa [show ((z.toNat : Nat) : Int) = z by omega] at h
theorem any_at (zs : List Int) (p : Int → Bool) (k : Nat) (hk : k < zs.length) (h : p (zs.getD k 0) = true) : zs.any p = true := by
  rw [List.any_eq_true]
  refine ⟨zs[k], List.getElem_mem hk, ?_⟩
  rwa [List.getD_eq_getElem?_getD, List.getElem?_eq_getElem hk] at h
theorem any_none (zs : List Int) (p : Int → Bool) (h : ∀ k, k < zs.length → p (zs.getD k 0) = false) : ¬ zs.any p = true := by
  rw [List.any_eq_true]
  rintro ⟨x, hx, hp⟩
  obtain ⟨k, hk, rfl⟩ := List.mem_iff_getElem.1 hx
  have := h k hk
  rw [List.getD_eq_getElem?_getD, List.getElem?_eq_getElem hk] at this
  rw [Option.getD_some] at this
  rw [this] at hp
  cases hp
abbrev oidBad (zs : List Int) : Prop := 2 < zs.getD 0 0 ∨ (zs.getD 0 0 < 2 ∧ 39 < zs.getD 1 0) ∨ 1000000 < zs.getD 1 0
theorem oid_few (zs : List Int) (h : zs.length < 2) : oidErr zs = 1 := if_pos h
theorem oid_neg (zs : List Int) (h2 : ¬ zs.length < 2) (k : Nat) (hk : k < zs.length) (h : zs.getD k 0 < 0) : oidErr zs = 1 := by
  rw [oidErr, if_neg h2, if_pos (any_at zs _ k hk (decide_eq_true h))]
theorem oid_arg (zs : List Int) (h2 : ¬ zs.length < 2) (h : oidBad zs) : oidErr zs = 1 := by
  rw [oidErr, if_neg h2]
  by_cases q : (zs.any fun z => decide (z < 0)) = true
  · rw [if_pos q]
  · rw [if_neg q, if_pos h]
theorem oid_many (zs : List Int) (h2 : ¬ zs.length < 2) (hn : ∀ k, k < zs.length → 0 ≤ zs.getD k 0) (hb : ¬ oidBad zs) (h : 20 < zs.length) : oidErr zs = 13 := by
  rw [oidErr, if_neg h2, if_neg (any_none zs _ fun k hk => decide_eq_false (by have := hn k hk; omega)), if_neg hb, if_pos h]
theorem drop2_at (zs : List Int) (j : Nat) : (zs.drop 2).getD j 0 = zs.getD (2 + j) 0 := by
  rw [List.getD_eq_getElem?_getD, List.getD_eq_getElem?_getD, List.getElem?_drop]
theorem oid_big (zs : List Int) (h2 : ¬ zs.length < 2) (hn : ∀ k, k < zs.length → 0 ≤ zs.getD k 0) (hb : ¬ oidBad zs) (h : ¬ 20 < zs.length) (k : Nat) (h2k : 2 ≤ k) (hk : k < zs.length) (hz : 268435455 < zs.getD k 0) : oidErr zs = 13 := by
  rw [oidErr, if_neg h2, if_neg (any_none zs _ fun k hk => decide_eq_false (by have := hn k hk; omega)), if_neg hb, if_neg h, if_pos]
  refine any_at (zs.drop 2) _ (k - 2) (by rw [List.length_drop]; omega) ?_
  rw [drop2_at, show 2 + (k - 2) = k by omega]
  exact decide_eq_true hz
theorem oid_ok (zs : List Int) (h2 : ¬ zs.length < 2) (hn : ∀ k, k < zs.length → 0 ≤ zs.getD k 0) (hb : ¬ oidBad zs) (h : ¬ 20 < zs.length) (hz : ∀ k, 2 ≤ k → k < zs.length → zs.getD k 0 ≤ 268435455) : oidErr zs = 0 := by
  rw [oidErr, if_neg h2, if_neg (any_none zs _ fun k hk => decide_eq_false (by have := hn k hk; omega)), if_neg hb, if_neg h, if_neg]
  refine any_none (zs.drop 2) _ fun j hj => ?_
  rw [List.length_drop] at hj
  have := hz (2 + j) (by omega) (by omega)
  rw [drop2_at]
  exact decide_eq_false (by omega)
theorem oid_bad (zs : List Int) (e : Int) (h : oidErr zs = e) (he : e ≠ 0) : oidX zs = ⟨#[]⟩ ∧ oidErr zs = e := ⟨if_neg (by rw [h]; exact he), h⟩
/-- The bytes of a name's first so many numbers. -/
def oidP (zs : List Int) (k : Nat) : ByteArray := ⟨(grL (40 * zs.getD 0 0 + zs.getD 1 0).toNat ++ restL ((zs.drop 2).take (k - 2))).toArray⟩
def grB (z : Int) : ByteArray := ⟨(grL z.toNat).toArray⟩
theorem oidP_two (zs : List Int) : oidP zs 2 = grB (40 * zs.getD 0 0 + zs.getD 1 0) := by
  rw [oidP, grB, Nat.sub_self, List.take_zero, show restL [] = [] from rfl, List.append_nil]
theorem oidP_succ (zs : List Int) (k : Nat) (h2 : 2 ≤ k) (hk : k < zs.length) : oidP zs (k + 1) = oidP zs k ++ grB (zs.getD k 0) := by
  apply ByteArray.ext
  apply Array.toList_inj.1
  have hk2 : k - 2 < (zs.drop 2).length := by rw [List.length_drop]; omega
  have e : (zs.drop 2)[k - 2] = zs.getD k 0 := by
    rw [List.getElem_drop, List.getD_eq_getElem?_getD, List.getElem?_eq_getElem hk]
    simp only [show 2 + (k - 2) = k by omega]
    rfl
  rw [ByteArray.data_append, Array.toList_append]
  show grL _ ++ restL ((zs.drop 2).take (k + 1 - 2)) = (grL _ ++ restL ((zs.drop 2).take (k - 2))) ++ grL (zs.getD k 0).toNat
  rw [show k + 1 - 2 = (k - 2) + 1 by omega, List.take_succ_eq_append_getElem hk2, e, restL, List.flatMap_append, List.flatMap_cons, List.flatMap_nil, List.append_nil, List.append_assoc]
  rfl
theorem oidP_end (zs : List Int) : oidP zs zs.length = oidB zs := by
  rw [oidP, oidB, oidL, List.take_of_length_le (by rw [List.length_drop]; omega)]
theorem grB_size (z : Int) : (grB z).size ≤ 10 := (grL_length z.toNat).2
theorem oidP_size (zs : List Int) (k : Nat) (h : k ≤ 20) : (oidP zs k).size ≤ 210 := by
  have a := restL_length ((zs.drop 2).take (k - 2)); have b := (grL_length (40 * zs.getD 0 0 + zs.getD 1 0).toNat).2
  rw [List.length_take] at a
  show (grL _ ++ restL _).length ≤ 210
  rw [List.length_append]
  omega
set_option maxHeartbeats 16000000 in
theorem rOid_any (ao : Option Addr) (n c : Nat) (zs : List Int) (w : World) (hn : zs.length = n) (hm : n ≤ 1000000) (hz : ∀ k, -9223372036854775808 ≤ zs.getD k 0 ∧ zs.getD k 0 ≤ 9223372036854775807) (hi : IntsAt w ao zs) :
    Calls Tryz.prog 116 #[.slice ao n c] w fun e w' => e = .returned (.tuple #[.string (oidX zs), .int .i64 (oidErr zs)]) ∧ Below w.heap.size w w' := by
  by_cases h2 : n < 2
  · have d2 : decide ((n : Int) < 2) = true := by simp; omega
    have HR := Lib.hid (oid_bad zs 1 (oid_few zs (by omega)) (by decide))
    have hb := Below.refl w.heap.size w
    go_enter Tryz.func116, Tryz.ntmps116
    go_wp2_with fail
    go_ret2
    exact ⟨by rw [HR.out.1, HR.out.2]; rfl, hb⟩
  have d2 : decide ((n : Int) < 2) = false := by simp; omega
  have HN := Lib.hid hn
  have HZ := Lib.hid hz
  have HI := Lib.hid hi
  have hb := Below.refl w.heap.size w
  obtain ⟨g, off, rfl, c0⟩ := hi 0 (by omega)
  obtain ⟨g1, off1, eg, c1⟩ := hi 1 (by omega)
  cases eg
  rw [Nat.add_zero] at c0
  have hp0 : (0 : Int) < (n : Int) := by omega
  have hp1 : (1 : Int) < (n : Int) := by omega
  have hq0 : 0 < n := by omega
  have hq1 : 1 < n := by omega
  clear hz hi
  go_enter Tryz.func116, Tryz.ntmps116
  go_wp2_with fail
  go_loopw [4] (fun iv wr => ∃ k : Nat, k ≤ n ∧ iv = .int .i64 (k : Int) ∧ (∀ j, j < k → 0 ≤ zs.getD j 0) ∧ w = wr) (fun iv _ => n - (intOf iv).toNat)
  case atStart => exact ⟨0, by omega, rfl, fun j hj => by omega, rfl⟩
  case round =>
    obtain ⟨k, hkn, rfl, hpre, rfl⟩ := hrel
    by_cases hlt : k < n
    · have hd : decide ((k : Int) < (n : Int)) = true := by simp; omega
      have hkn' : (k : Int) < (n : Int) := by omega
      obtain ⟨g', off', eg, cz⟩ := HI.out k (by rw [HN.out]; exact hlt)
      cases eg
      have HPRE := Lib.hid hpre
      clear hpre c0 c1
      generalize hzz : zs.getD k 0 = z at cz
      by_cases hneg : z < 0
      · have dz : decide (z < 0) = true := by simp; omega
        have HR := Lib.hid (oid_bad zs 1 (oid_neg zs (by omega) k (by omega) (by rw [hzz]; exact hneg)) (by decide))
        clear hzz
        go_wp2_with fail
        go_ret2
        exact ⟨by rw [HR.out.1, HR.out.2]; rfl, hb⟩
      · have dz : decide (z < 0) = false := by simp; omega
        have HPR2 : Hid (∀ j, j < k + 1 → 0 ≤ zs.getD j 0) := Lib.hid (fun j h => by
          by_cases c : j < k
          · exact HPRE.out j c
          · obtain rfl : j = k := by omega
            rw [hzz]; omega)
        clear hzz HPRE
        go_wp2_with fail
        go_roundw
        case rel => exact ⟨k + 1, by omega, by go_num, HPR2.out, by first | rfl | trivial⟩
        case measure => simp [intOf]; omega
    · have hd : decide ((k : Int) < (n : Int)) = false := by simp; omega
      obtain rfl : n = k := by omega
      have HNN : Hid (∀ j, j < zs.length → 0 ≤ zs.getD j 0) := Lib.hid (fun j h => hpre j (by rw [← HN.out]; exact h))
      have hx0 := hpre 0 (by omega)
      have hy0 := hpre 1 (by omega)
      have hx1 := HZ.out 0
      have hy1 := HZ.out 1
      clear hpre
      generalize hx : zs.getD 0 0 = x at c0 hx0 hx1
      generalize hy : zs.getD 1 0 = y at c1 hy0 hy1
      by_cases ca : 2 < x
      · have t0 : decide (2 < x) = true := (by first | (simp; done) | (simp; omega))
        have HR := Lib.hid (oid_bad zs 1 (oid_arg zs (by omega) (by rw [oidBad, hx, hy]; omega)) (by decide))
        clear hx hy
        go_wp2_with fail
        go_ret2
        exact ⟨by rw [HR.out.1, HR.out.2]; rfl, hb⟩
      by_cases cb : x < 2
      · by_cases cc : 39 < y
        · have t0 : decide (2 < x) = false := (by first | (simp; done) | (simp; omega)); have t1 : decide (x < 2) = true := (by first | (simp; done) | (simp; omega)); have t2 : decide (39 < y) = true := (by first | (simp; done) | (simp; omega))
          have HR := Lib.hid (oid_bad zs 1 (oid_arg zs (by omega) (by rw [oidBad, hx, hy]; omega)) (by decide))
          clear hx hy
          go_wp2_with fail
          go_ret2
          exact ⟨by rw [HR.out.1, HR.out.2]; rfl, hb⟩
        · have t0 : decide (2 < x) = false := (by first | (simp; done) | (simp; omega)); have t1 : decide (x < 2) = true := (by first | (simp; done) | (simp; omega)); have t2 : decide (39 < y) = false := (by first | (simp; done) | (simp; omega)); have t3 : decide (1000000 < y) = false := (by first | (simp; done) | (simp; omega))
          have hbad : ¬ oidBad zs := by rw [oidBad, hx, hy]; omega
          by_cases h20 : 20 < n
          · have d20 : decide ((20 : Int) < (n : Int)) = true := by simp; omega
            have HR := Lib.hid (oid_bad zs 13 (oid_many zs (by omega) HNN.out hbad (by omega)) (by decide))
            go_wp2_with fail
            go_ret2
            exact ⟨by rw [HR.out.1, HR.out.2]; rfl, hb⟩
          have d20 : decide ((20 : Int) < (n : Int)) = false := by simp; omega
          have h40 : 0 ≤ 40 * x ∧ 40 * x ≤ 80 := by omega
          have hs0 : 0 ≤ 40 * x + y ∧ 40 * x + y ≤ 1000080 := by omega
          have w40 : wrap64 (40 * x) = 40 * x := by unfold wrap64; omega
          have ws0 : wrap64 (40 * x + y) = 40 * x + y := by unfold wrap64; omega
          have u40 : IntKind.i64.wrap (40 * x) = 40 * x := by rw [IntKind.wrap_i64]; omega
          have us0 : IntKind.i64.wrap (40 * x + y) = 40 * x + y := by rw [IntKind.wrap_i64]; omega
          have CG0 := Lib.hid (fun W => rgroupZ_any (40 * x + y) W hs0.1 (by omega))
          rw [show (⟨(grL (40 * x + y).toNat).toArray⟩ : ByteArray) = oidP zs 2 by rw [oidP_two, hx, hy]; rfl] at CG0
          obtain ⟨o2, ho2⟩ : ∃ o2, oidP zs 2 = o2 := ⟨_, rfl⟩
          rw [ho2] at CG0
          have HO2 := Lib.hid ho2
          clear ho2
          go_wp2_with fail
          refine wp_region_told 9 77 [(Told.val (.slice (some ⟨g, off, none⟩) n c), [0]), (Told.val (.pointer (some ⟨g, off, none⟩)), [46]), (Told.val (.int .i64 x), [47]), (Told.val (.int .i64 (40 * x)), [48]), (Told.val (.slice (some ⟨g, off, none⟩) n c), [0]), (Told.val (.pointer (some ⟨g, off + 1, none⟩)), [50]), (Told.val (.int .i64 y), [51]), (Told.val (.int .i64 (40 * x + y)), [49, 52]), (Told.val (.string o2), [53])]
            (by kernel_rfl) (by kernel_rfl) rfl ?_ ?_
          · simp only [List.take_succ_cons, List.take_zero, toldObl, and_true]
            refine ⟨?_, ?_, ?_, ?_, ?_, ?_, ?_, ?_, ?_⟩
            · intro a w hb h
              have e0 : a.tmps.getD 0 undef = .slice (some ⟨g, off, none⟩) n c := h 0 (by simp)
              simp only [Array.getD_eq_getD_getElem?] at e0
              refine told_q ?_
              simp [go_sem, e0, sQuiet]
            · intro a w hb h
              have e0 : a.tmps.getD 46 undef = .slice (some ⟨g, off, none⟩) n c := h 46 (by simp)
              simp only [Array.getD_eq_getD_getElem?] at e0
              refine told_q ?_
              simp [go_sem, e0, sQuiet, hp0, hq0]
            · intro a w hb h
              have e0 : a.tmps.getD 47 undef = .pointer (some ⟨g, off, none⟩) := h 47 (by simp)
              simp only [Array.getD_eq_getD_getElem?] at e0
              have hc := (hb.cell (block_lt_of_cell c0)).trans c0
              refine told_q ?_
              simp [go_sem, e0, sQuiet, hc]
            · intro a w hb h
              have e0 : a.tmps.getD 48 undef = .int .i64 x := h 48 (by simp)
              simp only [Array.getD_eq_getD_getElem?] at e0
              refine told_q ?_
              simp [go_sem, e0, sQuiet, w40, u40]
            · intro a w hb h
              have e0 : a.tmps.getD 0 undef = .slice (some ⟨g, off, none⟩) n c := h 0 (by simp)
              simp only [Array.getD_eq_getD_getElem?] at e0
              refine told_q ?_
              simp [go_sem, e0, sQuiet]
            · intro a w hb h
              have e0 : a.tmps.getD 50 undef = .slice (some ⟨g, off, none⟩) n c := h 50 (by simp)
              simp only [Array.getD_eq_getD_getElem?] at e0
              refine told_q ?_
              simp [go_sem, e0, sQuiet, hp1, hq1]
            · intro a w hb h
              have e0 : a.tmps.getD 51 undef = .pointer (some ⟨g, off + 1, none⟩) := h 51 (by simp)
              simp only [Array.getD_eq_getD_getElem?] at e0
              have hc := (hb.cell (block_lt_of_cell c1)).trans c1
              refine told_q ?_
              simp [go_sem, e0, sQuiet, hc]
            · intro a w hb h
              have e0 : a.tmps.getD 49 undef = .int .i64 (40 * x) := h 49 (by simp)
              have e1 : a.tmps.getD 52 undef = .int .i64 y := h 52 (by simp)
              simp only [Array.getD_eq_getD_getElem?] at e0 e1
              refine told_q ?_
              simp [go_sem, e0, e1, sQuiet, ws0, us0]
            · intro a w hb h
              have e0 : a.tmps.getD 53 undef = .int .i64 (40 * x + y) := h 53 (by simp)
              simp only [Array.getD_eq_getD_getElem?] at e0
              refine told_q ?_
              simp [go_sem, e0, sQuiet]
              exact CG0.out _
          simp only [List.take_succ_cons, List.take_zero, List.drop_succ_cons, List.drop_zero, toldEnd, Act.put, List.setIfInBounds_toArray, List.set_cons_succ, List.set_cons_zero]
          rintro X bk v46 q46 v47 q47 v48 q48 v49 q49 v50 q50 v51 q51 v52 q52 v53 q53 v54 q54
          obtain rfl := q46.symm
          obtain rfl := q47.symm
          obtain rfl := q48.symm
          obtain rfl := q49.symm
          obtain rfl := q50.symm
          obtain rfl := q51.symm
          obtain rfl := q52.symm
          obtain rfl := q53.symm
          obtain rfl := q54.symm
          clear q46 q47 q48 q49 q50 q51 q52 q53 q54 CG0
          replace hb := hb.trans (bk.mono hb.size)
          clear bk c0 c1
          go_wp2_with fail
          go_loopw [5, 6] (fun ov iv wr => ∃ k : Nat, 2 ≤ k ∧ k ≤ n ∧ iv = .int .i64 (k : Int) ∧ ov = .string (oidP zs k) ∧ (∀ j, 2 ≤ j → j < k → zs.getD j 0 ≤ 268435455) ∧ Below w.heap.size w wr) (fun _ iv _ => n - (intOf iv).toNat)
          case atStart => exact ⟨2, by omega, by omega, rfl, by rw [HO2.out], fun j h1 h2 => by omega, hb⟩
          case round =>
            clear hb
            obtain ⟨k, h2k, hkn, rfl, rfl, hpre, hb⟩ := hrel
            have HPRE := Lib.hid hpre
            clear hpre
            by_cases hlt : k < n
            · have hd : decide ((k : Int) < (n : Int)) = true := by simp; omega
              have hkn' : (k : Int) < (n : Int) := by omega
              obtain ⟨g', off', eg, cz⟩ := (HI.out.step hb) k (by rw [HN.out]; exact hlt)
              cases eg
              have hz0 := HNN.out k (by omega)
              have hz1 := HZ.out k
              have HS := Lib.hid (oidP_succ zs k h2k (by omega))
              have hsz := oidP_size zs k (by omega)
              have HZK : Hid (zs.getD k 0 = zs.getD k 0) := Lib.hid rfl
              generalize hzz : zs.getD k 0 = z at cz hz0 hz1 HS
              by_cases hbig : 268435455 < z
              · have dz : decide (268435455 < z) = true := by simp; omega
                have HR := Lib.hid (oid_bad zs 13 (oid_big zs (by omega) HNN.out hbad (by omega) k h2k (by omega) (by rw [hzz]; exact hbig)) (by decide))
                clear HS hzz HZK
                generalize oidP zs k = ok at *
                go_wp2_with fail
                go_ret2
                exact ⟨by rw [HR.out.1, HR.out.2]; rfl, hb⟩
              · have dz : decide (268435455 < z) = false := by simp; omega
                have CG := Lib.hid (fun W => rgroupZ_any z W hz0 (by omega))
                rw [show (⟨(grL z.toNat).toArray⟩ : ByteArray) = grB z from rfl] at CG
                have hgs := grB_size z
                have HPR2 : Hid (∀ j, 2 ≤ j → j < k + 1 → zs.getD j 0 ≤ 268435455) := Lib.hid (fun j h1 h2 => by
                  by_cases c : j < k
                  · exact HPRE.out j h1 c
                  · obtain rfl : j = k := by omega
                    rw [hzz]; omega)
                obtain ⟨pk, hpk⟩ : ∃ pk, oidP zs k = pk := ⟨_, rfl⟩
                obtain ⟨gk, hgk⟩ : ∃ gk, grB z = gk := ⟨_, rfl⟩
                rw [hpk] at hsz
                rw [hgk] at CG hgs
                have HS2 : Hid (oidP zs (k + 1) = pk ++ gk) := Lib.hid (by rw [HS.out, hpk, hgk])
                rw [hpk]
                have hsum : pk.size + gk.size ≤ 9223372036854775807 := by omega
                clear HS HZK hzz hpk hgk HPRE
                go_wp2_with fail
                refine (CG.out _).mono ?_
                rintro e W1 ⟨rfl, bk⟩
                replace hb := hb.trans (bk.mono hb.size)
                clear bk CG
                go_wp2_with fail
                go_roundw
                case rel => exact ⟨k + 1, by omega, by omega, by go_num, by rw [HS2.out], HPR2.out, hb⟩
                case measure => simp [intOf]; omega
            · have hd : decide ((k : Int) < (n : Int)) = false := by simp; omega
              obtain rfl : n = k := by omega
              have hok := oid_ok zs (by omega) HNN.out hbad (by omega) (fun j h1 h2 => HPRE.out j h1 (by omega))
              have hP : oidP zs n = oidB zs := by rw [← HN.out]; exact oidP_end zs
              have hbs := oidB_size zs (by omega)
              rw [hP]
              have CW := Lib.hid (fun W => rWrite_any 6 (oidB zs) W (by decide) (by decide))
              rw [oid_wr zs (by omega)] at CW
              have HX : Hid (oidX zs = wrX 6 (oidB zs)) := Lib.hid (if_pos hok)
              have HOK := Lib.hid hok
              generalize wrX 6 (oidB zs) = xo at *
              generalize oidB zs = ob at *
              clear hok hP
              go_wp2_with fail
              refine (CW.out _).mono ?_
              rintro e W1 ⟨rfl, bk⟩
              replace hb := hb.trans (bk.mono hb.size)
              clear bk CW
              go_wp2_with fail
              go_ret2
              exact ⟨by rw [HX.out, HOK.out]; rfl, hb⟩
      by_cases cd : 1000000 < y
      · have t0 : decide (2 < x) = false := (by first | (simp; done) | (simp; omega)); have t1 : decide (x < 2) = false := (by first | (simp; done) | (simp; omega)); have t2 : decide (1000000 < y) = true := (by first | (simp; done) | (simp; omega))
        have HR := Lib.hid (oid_bad zs 1 (oid_arg zs (by omega) (by rw [oidBad, hx, hy]; omega)) (by decide))
        clear hx hy
        go_wp2_with fail
        go_ret2
        exact ⟨by rw [HR.out.1, HR.out.2]; rfl, hb⟩
      · have t0 : decide (2 < x) = false := (by first | (simp; done) | (simp; omega)); have t1 : decide (x < 2) = false := (by first | (simp; done) | (simp; omega)); have t2 : decide (1000000 < y) = false := (by first | (simp; done) | (simp; omega))
        have hbad : ¬ oidBad zs := by rw [oidBad, hx, hy]; omega
        by_cases h20 : 20 < n
        · have d20 : decide ((20 : Int) < (n : Int)) = true := by simp; omega
          have HR := Lib.hid (oid_bad zs 13 (oid_many zs (by omega) HNN.out hbad (by omega)) (by decide))
          go_wp2_with fail
          go_ret2
          exact ⟨by rw [HR.out.1, HR.out.2]; rfl, hb⟩
        have d20 : decide ((20 : Int) < (n : Int)) = false := by simp; omega
        have h40 : 0 ≤ 40 * x ∧ 40 * x ≤ 80 := by omega
        have hs0 : 0 ≤ 40 * x + y ∧ 40 * x + y ≤ 1000080 := by omega
        have w40 : wrap64 (40 * x) = 40 * x := by unfold wrap64; omega
        have ws0 : wrap64 (40 * x + y) = 40 * x + y := by unfold wrap64; omega
        have u40 : IntKind.i64.wrap (40 * x) = 40 * x := by rw [IntKind.wrap_i64]; omega
        have us0 : IntKind.i64.wrap (40 * x + y) = 40 * x + y := by rw [IntKind.wrap_i64]; omega
        have CG0 := Lib.hid (fun W => rgroupZ_any (40 * x + y) W hs0.1 (by omega))
        rw [show (⟨(grL (40 * x + y).toNat).toArray⟩ : ByteArray) = oidP zs 2 by rw [oidP_two, hx, hy]; rfl] at CG0
        obtain ⟨o2, ho2⟩ : ∃ o2, oidP zs 2 = o2 := ⟨_, rfl⟩
        rw [ho2] at CG0
        have HO2 := Lib.hid ho2
        clear ho2
        go_wp2_with fail
        refine wp_region_told 9 77 [(Told.val (.slice (some ⟨g, off, none⟩) n c), [0]), (Told.val (.pointer (some ⟨g, off, none⟩)), [46]), (Told.val (.int .i64 x), [47]), (Told.val (.int .i64 (40 * x)), [48]), (Told.val (.slice (some ⟨g, off, none⟩) n c), [0]), (Told.val (.pointer (some ⟨g, off + 1, none⟩)), [50]), (Told.val (.int .i64 y), [51]), (Told.val (.int .i64 (40 * x + y)), [49, 52]), (Told.val (.string o2), [53])]
          (by kernel_rfl) (by kernel_rfl) rfl ?_ ?_
        · simp only [List.take_succ_cons, List.take_zero, toldObl, and_true]
          refine ⟨?_, ?_, ?_, ?_, ?_, ?_, ?_, ?_, ?_⟩
          · intro a w hb h
            have e0 : a.tmps.getD 0 undef = .slice (some ⟨g, off, none⟩) n c := h 0 (by simp)
            simp only [Array.getD_eq_getD_getElem?] at e0
            refine told_q ?_
            simp [go_sem, e0, sQuiet]
          · intro a w hb h
            have e0 : a.tmps.getD 46 undef = .slice (some ⟨g, off, none⟩) n c := h 46 (by simp)
            simp only [Array.getD_eq_getD_getElem?] at e0
            refine told_q ?_
            simp [go_sem, e0, sQuiet, hp0, hq0]
          · intro a w hb h
            have e0 : a.tmps.getD 47 undef = .pointer (some ⟨g, off, none⟩) := h 47 (by simp)
            simp only [Array.getD_eq_getD_getElem?] at e0
            have hc := (hb.cell (block_lt_of_cell c0)).trans c0
            refine told_q ?_
            simp [go_sem, e0, sQuiet, hc]
          · intro a w hb h
            have e0 : a.tmps.getD 48 undef = .int .i64 x := h 48 (by simp)
            simp only [Array.getD_eq_getD_getElem?] at e0
            refine told_q ?_
            simp [go_sem, e0, sQuiet, w40, u40]
          · intro a w hb h
            have e0 : a.tmps.getD 0 undef = .slice (some ⟨g, off, none⟩) n c := h 0 (by simp)
            simp only [Array.getD_eq_getD_getElem?] at e0
            refine told_q ?_
            simp [go_sem, e0, sQuiet]
          · intro a w hb h
            have e0 : a.tmps.getD 50 undef = .slice (some ⟨g, off, none⟩) n c := h 50 (by simp)
            simp only [Array.getD_eq_getD_getElem?] at e0
            refine told_q ?_
            simp [go_sem, e0, sQuiet, hp1, hq1]
          · intro a w hb h
            have e0 : a.tmps.getD 51 undef = .pointer (some ⟨g, off + 1, none⟩) := h 51 (by simp)
            simp only [Array.getD_eq_getD_getElem?] at e0
            have hc := (hb.cell (block_lt_of_cell c1)).trans c1
            refine told_q ?_
            simp [go_sem, e0, sQuiet, hc]
          · intro a w hb h
            have e0 : a.tmps.getD 49 undef = .int .i64 (40 * x) := h 49 (by simp)
            have e1 : a.tmps.getD 52 undef = .int .i64 y := h 52 (by simp)
            simp only [Array.getD_eq_getD_getElem?] at e0 e1
            refine told_q ?_
            simp [go_sem, e0, e1, sQuiet, ws0, us0]
          · intro a w hb h
            have e0 : a.tmps.getD 53 undef = .int .i64 (40 * x + y) := h 53 (by simp)
            simp only [Array.getD_eq_getD_getElem?] at e0
            refine told_q ?_
            simp [go_sem, e0, sQuiet]
            exact CG0.out _
        simp only [List.take_succ_cons, List.take_zero, List.drop_succ_cons, List.drop_zero, toldEnd, Act.put, List.setIfInBounds_toArray, List.set_cons_succ, List.set_cons_zero]
        rintro X bk v46 q46 v47 q47 v48 q48 v49 q49 v50 q50 v51 q51 v52 q52 v53 q53 v54 q54
        obtain rfl := q46.symm
        obtain rfl := q47.symm
        obtain rfl := q48.symm
        obtain rfl := q49.symm
        obtain rfl := q50.symm
        obtain rfl := q51.symm
        obtain rfl := q52.symm
        obtain rfl := q53.symm
        obtain rfl := q54.symm
        clear q46 q47 q48 q49 q50 q51 q52 q53 q54 CG0
        replace hb := hb.trans (bk.mono hb.size)
        clear bk c0 c1
        go_wp2_with fail
        go_loopw [5, 6] (fun ov iv wr => ∃ k : Nat, 2 ≤ k ∧ k ≤ n ∧ iv = .int .i64 (k : Int) ∧ ov = .string (oidP zs k) ∧ (∀ j, 2 ≤ j → j < k → zs.getD j 0 ≤ 268435455) ∧ Below w.heap.size w wr) (fun _ iv _ => n - (intOf iv).toNat)
        case atStart => exact ⟨2, by omega, by omega, rfl, by rw [HO2.out], fun j h1 h2 => by omega, hb⟩
        case round =>
          clear hb
          obtain ⟨k, h2k, hkn, rfl, rfl, hpre, hb⟩ := hrel
          have HPRE := Lib.hid hpre
          clear hpre
          by_cases hlt : k < n
          · have hd : decide ((k : Int) < (n : Int)) = true := by simp; omega
            have hkn' : (k : Int) < (n : Int) := by omega
            obtain ⟨g', off', eg, cz⟩ := (HI.out.step hb) k (by rw [HN.out]; exact hlt)
            cases eg
            have hz0 := HNN.out k (by omega)
            have hz1 := HZ.out k
            have HS := Lib.hid (oidP_succ zs k h2k (by omega))
            have hsz := oidP_size zs k (by omega)
            have HZK : Hid (zs.getD k 0 = zs.getD k 0) := Lib.hid rfl
            generalize hzz : zs.getD k 0 = z at cz hz0 hz1 HS
            by_cases hbig : 268435455 < z
            · have dz : decide (268435455 < z) = true := by simp; omega
              have HR := Lib.hid (oid_bad zs 13 (oid_big zs (by omega) HNN.out hbad (by omega) k h2k (by omega) (by rw [hzz]; exact hbig)) (by decide))
              clear HS hzz HZK
              generalize oidP zs k = ok at *
              go_wp2_with fail
              go_ret2
              exact ⟨by rw [HR.out.1, HR.out.2]; rfl, hb⟩
            · have dz : decide (268435455 < z) = false := by simp; omega
              have CG := Lib.hid (fun W => rgroupZ_any z W hz0 (by omega))
              rw [show (⟨(grL z.toNat).toArray⟩ : ByteArray) = grB z from rfl] at CG
              have hgs := grB_size z
              have HPR2 : Hid (∀ j, 2 ≤ j → j < k + 1 → zs.getD j 0 ≤ 268435455) := Lib.hid (fun j h1 h2 => by
                by_cases c : j < k
                · exact HPRE.out j h1 c
                · obtain rfl : j = k := by omega
                  rw [hzz]; omega)
              obtain ⟨pk, hpk⟩ : ∃ pk, oidP zs k = pk := ⟨_, rfl⟩
              obtain ⟨gk, hgk⟩ : ∃ gk, grB z = gk := ⟨_, rfl⟩
              rw [hpk] at hsz
              rw [hgk] at CG hgs
              have HS2 : Hid (oidP zs (k + 1) = pk ++ gk) := Lib.hid (by rw [HS.out, hpk, hgk])
              rw [hpk]
              have hsum : pk.size + gk.size ≤ 9223372036854775807 := by omega
              clear HS HZK hzz hpk hgk HPRE
              go_wp2_with fail
              refine (CG.out _).mono ?_
              rintro e W1 ⟨rfl, bk⟩
              replace hb := hb.trans (bk.mono hb.size)
              clear bk CG
              go_wp2_with fail
              go_roundw
              case rel => exact ⟨k + 1, by omega, by omega, by go_num, by rw [HS2.out], HPR2.out, hb⟩
              case measure => simp [intOf]; omega
          · have hd : decide ((k : Int) < (n : Int)) = false := by simp; omega
            obtain rfl : n = k := by omega
            have hok := oid_ok zs (by omega) HNN.out hbad (by omega) (fun j h1 h2 => HPRE.out j h1 (by omega))
            have hP : oidP zs n = oidB zs := by rw [← HN.out]; exact oidP_end zs
            have hbs := oidB_size zs (by omega)
            rw [hP]
            have CW := Lib.hid (fun W => rWrite_any 6 (oidB zs) W (by decide) (by decide))
            rw [oid_wr zs (by omega)] at CW
            have HX : Hid (oidX zs = wrX 6 (oidB zs)) := Lib.hid (if_pos hok)
            have HOK := Lib.hid hok
            generalize wrX 6 (oidB zs) = xo at *
            generalize oidB zs = ob at *
            clear hok hP
            go_wp2_with fail
            refine (CW.out _).mono ?_
            rintro e W1 ⟨rfl, bk⟩
            replace hb := hb.trans (bk.mono hb.size)
            clear bk CW
            go_wp2_with fail
            go_ret2
            exact ⟨by rw [HX.out, HOK.out]; rfl, hb⟩
end
end Go.Proofs.YteomfleofeeofaaGreatDoor
