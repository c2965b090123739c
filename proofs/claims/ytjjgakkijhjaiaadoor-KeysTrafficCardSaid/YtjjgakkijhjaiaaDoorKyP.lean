/- The key schedule's functions: package keys'. -/
import Derived.Test.YtjjgakkijhjaiaaDoorKyC
import Derived.Test.YtjjgakkijhjaiaaDoorRep
namespace Go.Proofs.YtjjgakkijhjaiaaDoor
open Go.RowKit Go.Sort
set_option maxRecDepth 100000
set_option linter.unusedSimpArgs false
set_option linter.unusedVariables false

theorem psize_any (n : Int) (w : World) :
    Calls Tryd.prog 37 #[.int .i64 n] w fun e w' => e = .returned (.int .i64 (sizeK n : Int)) ∧ Below w.heap.size w w' := by
  have hb := Below.refl w.heap.size w
  by_cases h1 : n = 4865
  · subst h1
    go_enter Tryd.func37, Tryd.ntmps37
    go_wp2_with fail
    go_ret
    exact ⟨rfl, hb⟩
  · have d1 : (n == 4865) = false := by simpa using h1
    by_cases h2 : n = 4867
    · subst h2
      go_enter Tryd.func37, Tryd.ntmps37
      go_wp2_with fail
      go_ret
      exact ⟨rfl, hb⟩
    · have d2 : (n == 4867) = false := by simpa using h2
      have HS : Hid (sizeK n = 0) := Lib.hid (by rw [sizeK, if_neg h1, if_neg h2])
      rw [HS.out]
      go_enter Tryd.func37, Tryd.ntmps37
      go_wp2_with fail
      go_ret
      exact ⟨rfl, hb⟩
theorem prep_sp (w : World) : Calls Tryd.prog 43 #[.string ⟨#[32]⟩, .int .i64 64] w fun e w' => e = .returned (.string (spB 64)) ∧ Below w.heap.size w w' := by
  have h2 := Tryd.strings_Repeat ⟨#[32]⟩ 64 w (by decide) (by decide)
  have e : (⟨(Lib.repeatL (⟨#[32]⟩ : ByteArray).data.toList 64).toArray⟩ : ByteArray) = spB 64 := by
    have h := Lib.repeatL_replicate 32 1 64
    rw [Nat.mul_one] at h
    exact congrArg (fun l => (⟨List.toArray l⟩ : ByteArray)) h
  rw [e] at h2
  exact h2
theorem pnothing_any (w : World) : Calls Tryd.prog 34 #[] w fun e w' => e = .returned (.string zB) ∧ Below w.heap.size w w' := by
  have HR := Lib.hid (fun W => Tryd.strings_Repeat ⟨#[0]⟩ 32 W (by decide) (by decide))
  have HE : Hid ((⟨(Lib.repeatL (⟨#[0]⟩ : ByteArray).data.toList 32).toArray⟩ : ByteArray) = zB) := Lib.hid (by
    have h := Lib.repeatL_replicate 0 1 32
    rw [Nat.mul_one] at h
    exact congrArg (fun l => (⟨List.toArray l⟩ : ByteArray)) h)
  rw [HE.out] at HR
  go_enter Tryd.func34, Tryd.ntmps34
  go_wp2_with fail
  refine (HR.out w).mono ?_
  rintro e W ⟨rfl, hb⟩
  go_wp2_with fail
  go_ret
  exact ⟨rfl, hb⟩
set_option maxHeartbeats 1000000 in
theorem plabel_any (s l : ByteArray) (n : Nat) (w : World) (hs : s.size ≤ 1000000) (hl : l.size ≤ 249) (hn : n ≤ 8160) (hT : ShQ w) :
    Calls Tryd.prog 38 #[.string s, .string l, .int .i64 (n : Int)] w fun e w' => e = .returned (.string (labB s l kE n)) ∧ Below w.heap.size w w' := by
  have hb := Below.refl w.heap.size w
  have HT := Lib.hid hT
  clear hT
  have CL := Lib.hid (fun W (hW : ShQ W) => label_any s l kE n W hW.1 hW.2 hs hl (by decide) hn)
  clear hs hl hn
  go_enter Tryd.func38, Tryd.ntmps38
  go_wp2_with fail
  refine (CL.out _ HT.out).mono ?_
  rintro e W' ⟨rfl, bk⟩
  replace hb := hb.trans (bk.mono hb.size)
  replace HT := Lib.hid (HT.out.step bk)
  clear bk CL
  go_wp2_with fail
  go_ret
  exact ⟨rfl, hb⟩
set_option maxHeartbeats 1000000 in
theorem psecGood_any (f l s : ByteArray) (w : World) (hf1 : f.size ≤ 1000000) (hl : l.size ≤ 249) (hs : s.size ≤ 1000000) (hT : ShQ w) :
    Calls Tryd.prog 12 #[.string f, .string l, .string s] w fun e w' => e = .returned (.tuple #[.string (labB f l (shaB s) 32), .int .i64 0]) ∧ Below w.heap.size w w' := by
  have hb := Below.refl w.heap.size w
  have HT := Lib.hid hT
  clear hT
  have CS := Lib.hid (fun W (hW : ShQ W) => sum256_any kf hf s W hW.1 hW.2 (by omega))
  have CL := Lib.hid (fun W (hW : ShQ W) => label_any f l (shaB s) 32 W hW.1 hW.2 hf1 hl (by rw [shaB_size]; decide) (by decide))
  clear hf1 hl hs
  go_enter Tryd.func12, Tryd.ntmps12
  go_wp2_with fail
  refine (CS.out _ HT.out).mono ?_
  rintro e W' ⟨rfl, bk⟩
  replace hb := hb.trans (bk.mono hb.size)
  replace HT := Lib.hid (HT.out.step bk)
  clear bk CS
  go_wp2_with fail
  refine (CL.out _ HT.out).mono ?_
  rintro e W' ⟨rfl, bk⟩
  replace hb := hb.trans (bk.mono hb.size)
  replace HT := Lib.hid (HT.out.step bk)
  clear bk CL
  go_wp2_with fail
  go_ret2
  exact ⟨rfl, hb⟩
set_option maxHeartbeats 1000000 in
theorem psecBad_any (f l s : ByteArray) (w : World) (hl : 249 < l.size) (hs : s.size ≤ 1000000) (hT : ShQ w) :
    Calls Tryd.prog 12 #[.string f, .string l, .string s] w fun e w' => e = .returned (.tuple #[.string kE, .int .i64 13]) ∧ Below w.heap.size w w' := by
  have hb := Below.refl w.heap.size w
  have HT := Lib.hid hT
  clear hT
  have CS := Lib.hid (fun W (hW : ShQ W) => sum256_any kf hf s W hW.1 hW.2 (by omega))
  have CL := Lib.hid (fun W => labelBig_any f l (shaB s) 32 W (by decide) (.inl hl))
  clear hl hs
  go_enter Tryd.func12, Tryd.ntmps12
  go_wp2_with fail
  refine (CS.out _ HT.out).mono ?_
  rintro e W' ⟨rfl, bk⟩
  replace hb := hb.trans (bk.mono hb.size)
  replace HT := Lib.hid (HT.out.step bk)
  clear bk CS
  go_wp2_with fail
  refine (CL.out _).mono ?_
  rintro e W' ⟨rfl, bk⟩
  replace hb := hb.trans (bk.mono hb.size)
  replace HT := Lib.hid (HT.out.step bk)
  clear bk CL
  go_wp2_with fail
  go_ret2
  exact ⟨rfl, hb⟩
theorem psecret_any (f l s : ByteArray) (w : World) (hf1 : f.size ≤ 1000000) (hs : s.size ≤ 1000000) (hT : ShQ w) :
    Calls Tryd.prog 12 #[.string f, .string l, .string s] w fun e w' => e = .returned (.tuple #[.string (secX f l s), .int .i64 (secE l)]) ∧ Below w.heap.size w w' := by
  by_cases h : 249 < l.size
  · rw [secX, secE, if_pos h, if_pos h]; exact psecBad_any f l s w h hs hT
  · rw [secX, secE, if_neg h, if_neg h]; exact psecGood_any f l s w hf1 (by omega) hs hT
set_option maxHeartbeats 1000000 in
theorem pderived_any (f : ByteArray) (w : World) (hf1 : f.size ≤ 1000000) (hT : ShQ w) :
    Calls Tryd.prog 33 #[.string f] w fun e w' => e = .returned (.string (derB f)) ∧ Below w.heap.size w w' := by
  have hb := Below.refl w.heap.size w
  have HT := Lib.hid hT
  clear hT
  have CS := Lib.hid (fun W (hW : ShQ W) => psecGood_any f wDerived kE W hf1 (by decide) (by decide) hW)
  clear hf1
  go_enter Tryd.func33, Tryd.ntmps33
  go_wp2_with fail
  refine (CS.out _ HT.out).mono ?_
  rintro e W' ⟨rfl, bk⟩
  replace hb := hb.trans (bk.mono hb.size)
  replace HT := Lib.hid (HT.out.step bk)
  clear bk CS
  go_wp2_with fail
  go_ret
  exact ⟨rfl, hb⟩
set_option maxHeartbeats 1000000 in
theorem pearly_any (w : World) (hT : ShQ w) :
    Calls Tryd.prog 15 #[] w fun e w' => e = .returned (.string erlB) ∧ Below w.heap.size w w' := by
  have hb := Below.refl w.heap.size w
  have HT := Lib.hid hT
  clear hT
  have CN := Lib.hid (fun W => pnothing_any W)
  have CX := Lib.hid (fun W (hW : ShQ W) => extract_any kE zB W hW.1 hW.2 (by decide) (by decide))
  go_enter Tryd.func15, Tryd.ntmps15
  go_wp2_with fail
  refine (CN.out _).mono ?_
  rintro e W' ⟨rfl, bk⟩
  replace hb := hb.trans (bk.mono hb.size)
  replace HT := Lib.hid (HT.out.step bk)
  clear bk CN
  go_wp2_with fail
  refine (CX.out _ HT.out).mono ?_
  rintro e W' ⟨rfl, bk⟩
  replace hb := hb.trans (bk.mono hb.size)
  replace HT := Lib.hid (HT.out.step bk)
  clear bk CX
  go_wp2_with fail
  go_ret
  exact ⟨rfl, hb⟩
set_option maxHeartbeats 1000000 in
theorem phandshake_any (s : ByteArray) (w : World) (hs : s.size ≤ 1000000) (hT : ShQ w) :
    Calls Tryd.prog 14 #[.string s] w fun e w' => e = .returned (.string (hsB s)) ∧ Below w.heap.size w w' := by
  have hb := Below.refl w.heap.size w
  have HT := Lib.hid hT
  clear hT
  have CE := Lib.hid (fun W (hW : ShQ W) => pearly_any W hW)
  have hz : erlB.size = 32 := macB_size kE zB
  have CD := Lib.hid (fun W (hW : ShQ W) => pderived_any erlB W (by omega) hW)
  have hy : (derB erlB).size = 32 := labB_size _ _ _ _
  have CX := Lib.hid (fun W (hW : ShQ W) => extract_any (derB erlB) s W hW.1 hW.2 (by omega) (by omega))
  have HH : Hid (hsB s = ⟨(mac32 (derB erlB).data.toList s.data.toList).toArray⟩) := Lib.hid rfl
  generalize derB erlB = y at *
  generalize hsB s = r at *
  clear hs hz hy
  go_enter Tryd.func14, Tryd.ntmps14
  go_wp2_with fail
  refine (CE.out _ HT.out).mono ?_
  rintro e W' ⟨rfl, bk⟩
  replace hb := hb.trans (bk.mono hb.size)
  replace HT := Lib.hid (HT.out.step bk)
  clear bk CE
  go_wp2_with fail
  refine (CD.out _ HT.out).mono ?_
  rintro e W' ⟨rfl, bk⟩
  replace hb := hb.trans (bk.mono hb.size)
  replace HT := Lib.hid (HT.out.step bk)
  clear bk CD
  go_wp2_with fail
  refine (CX.out _ HT.out).mono ?_
  rintro e W' ⟨rfl, bk⟩
  replace hb := hb.trans (bk.mono hb.size)
  replace HT := Lib.hid (HT.out.step bk)
  clear bk CX
  go_wp2_with fail
  go_ret
  exact ⟨by rw [HH.out]; rfl, hb⟩
set_option maxHeartbeats 1000000 in
theorem pmaster_any (s : ByteArray) (w : World) (hs : s.size ≤ 1000000) (hT : ShQ w) :
    Calls Tryd.prog 18 #[.string s] w fun e w' => e = .returned (.string (maB s)) ∧ Below w.heap.size w w' := by
  have hb := Below.refl w.heap.size w
  have HT := Lib.hid hT
  clear hT
  have CD := Lib.hid (fun W (hW : ShQ W) => pderived_any s W hs hW)
  have CN := Lib.hid (fun W => pnothing_any W)
  have hy : (derB s).size = 32 := labB_size _ _ _ _
  have CX := Lib.hid (fun W (hW : ShQ W) => extract_any (derB s) zB W hW.1 hW.2 (by omega) (by decide))
  have HH : Hid (maB s = ⟨(mac32 (derB s).data.toList zB.data.toList).toArray⟩) := Lib.hid rfl
  generalize derB s = y at *
  generalize maB s = r at *
  clear hs hy
  go_enter Tryd.func18, Tryd.ntmps18
  go_wp2_with fail
  refine (CD.out _ HT.out).mono ?_
  rintro e W' ⟨rfl, bk⟩
  replace hb := hb.trans (bk.mono hb.size)
  replace HT := Lib.hid (HT.out.step bk)
  clear bk CD
  go_wp2_with fail
  refine (CN.out _).mono ?_
  rintro e W' ⟨rfl, bk⟩
  replace hb := hb.trans (bk.mono hb.size)
  replace HT := Lib.hid (HT.out.step bk)
  clear bk CN
  go_wp2_with fail
  refine (CX.out _ HT.out).mono ?_
  rintro e W' ⟨rfl, bk⟩
  replace hb := hb.trans (bk.mono hb.size)
  replace HT := Lib.hid (HT.out.step bk)
  clear bk CX
  go_wp2_with fail
  go_ret
  exact ⟨by rw [HH.out]; rfl, hb⟩
set_option maxHeartbeats 1000000 in
theorem ptraNo_any (n : Int) (s : ByteArray) (w : World) (h : sizeK n = 0) (hT : ShQ w) :
    Calls Tryd.prog 20 #[.int .i64 n, .string s] w fun e w' => e = .returned (.tuple #[.string kE, .string kE, .int .i64 1]) ∧ Below w.heap.size w w' := by
  have hb := Below.refl w.heap.size w
  have HT := Lib.hid hT
  clear hT
  have CZ := Lib.hid (fun W => psize_any n W)
  rw [h] at CZ
  clear h
  go_enter Tryd.func20, Tryd.ntmps20
  go_wp2_with fail
  refine (CZ.out _).mono ?_
  rintro e W' ⟨rfl, bk⟩
  replace hb := hb.trans (bk.mono hb.size)
  replace HT := Lib.hid (HT.out.step bk)
  clear bk CZ
  go_wp2_with fail
  go_ret3
  exact ⟨rfl, hb⟩
set_option maxHeartbeats 1000000 in
theorem ptraYes_any (n : Int) (s : ByteArray) (w : World) (h : sizeK n ≠ 0) (hs : s.size ≤ 1000000) (hT : ShQ w) :
    Calls Tryd.prog 20 #[.int .i64 n, .string s] w fun e w' => e = .returned (.tuple #[.string (labB s wKey kE (sizeK n)), .string (labB s wIv kE 12), .int .i64 0]) ∧ Below w.heap.size w w' := by
  have hb := Below.refl w.heap.size w
  have HT := Lib.hid hT
  clear hT
  have CZ := Lib.hid (fun W => psize_any n W)
  have hz : sizeK n ≤ 32 := by unfold sizeK; split; · decide
                               split <;> decide
  have CK := Lib.hid (fun W (hW : ShQ W) => plabel_any s wKey (sizeK n) W hs (by decide) (by omega) hW)
  have CI := Lib.hid (fun W (hW : ShQ W) => plabel_any s wIv 12 W hs (by decide) (by decide) hW)
  generalize sizeK n = z at *
  have e0 : ((z : Int) == 0) = false := by rw [beq_eq_false_iff_ne]; omega
  have n0 : ¬ z = 0 := h
  clear h hs hz
  go_enter Tryd.func20, Tryd.ntmps20
  go_wp2_with fail
  refine (CZ.out _).mono ?_
  rintro e W' ⟨rfl, bk⟩
  replace hb := hb.trans (bk.mono hb.size)
  replace HT := Lib.hid (HT.out.step bk)
  clear bk CZ
  go_wp2_with fail
  refine (CK.out _ HT.out).mono ?_
  rintro e W' ⟨rfl, bk⟩
  replace hb := hb.trans (bk.mono hb.size)
  replace HT := Lib.hid (HT.out.step bk)
  clear bk CK
  go_wp2_with fail
  refine (CI.out _ HT.out).mono ?_
  rintro e W' ⟨rfl, bk⟩
  replace hb := hb.trans (bk.mono hb.size)
  replace HT := Lib.hid (HT.out.step bk)
  clear bk CI
  go_wp2_with fail
  go_ret3
  exact ⟨rfl, hb⟩
theorem ptraffic_any (n : Int) (s : ByteArray) (w : World) (hs : s.size ≤ 1000000) (hT : ShQ w) :
    Calls Tryd.prog 20 #[.int .i64 n, .string s] w fun e w' => e = .returned (.tuple #[.string (traX n s), .string (traI n s), .int .i64 (traE n)]) ∧ Below w.heap.size w w' := by
  by_cases h : sizeK n = 0
  · rw [traX, traI, traE, if_pos h, if_pos h, if_pos h]; exact ptraNo_any n s w h hT
  · rw [traX, traI, traE, if_neg h, if_neg h, if_neg h]; exact ptraYes_any n s w h hs hT
set_option maxHeartbeats 1000000 in
theorem pnext_any (s : ByteArray) (w : World) (hs : s.size ≤ 1000000) (hT : ShQ w) :
    Calls Tryd.prog 22 #[.string s] w fun e w' => e = .returned (.string (nxB s)) ∧ Below w.heap.size w w' := by
  have hb := Below.refl w.heap.size w
  have HT := Lib.hid hT
  clear hT
  have CL := Lib.hid (fun W (hW : ShQ W) => plabel_any s wUpd 32 W hs (by decide) (by decide) hW)
  clear hs
  go_enter Tryd.func22, Tryd.ntmps22
  go_wp2_with fail
  refine (CL.out _ HT.out).mono ?_
  rintro e W' ⟨rfl, bk⟩
  replace hb := hb.trans (bk.mono hb.size)
  replace HT := Lib.hid (HT.out.step bk)
  clear bk CL
  go_wp2_with fail
  go_ret
  exact ⟨rfl, hb⟩
set_option maxHeartbeats 1000000 in
theorem ptag_any (s d : ByteArray) (w : World) (hs : s.size ≤ 1000000) (hd : d.size ≤ 1000000) (hT : ShQ w) :
    Calls Tryd.prog 24 #[.string s, .string d] w fun e w' => e = .returned (.string (tagB s d)) ∧ Below w.heap.size w w' := by
  have hb := Below.refl w.heap.size w
  have HT := Lib.hid hT
  clear hT
  have CL := Lib.hid (fun W (hW : ShQ W) => plabel_any s wFin 32 W hs (by decide) (by decide) hW)
  have CS := Lib.hid (fun W (hW : ShQ W) => sum256_any kf hf d W hW.1 hW.2 (by omega))
  have h1 := labB_size s wFin kE 32
  have h2 := shaB_size d
  have CM := Lib.hid (fun W (hW : ShQ W) => mac32_any (labB s wFin kE 32) (shaB d) W hW.1 hW.2 (by omega) (by omega))
  have HH : Hid (tagB s d = ⟨(mac32 (labB s wFin kE 32).data.toList (shaB d).data.toList).toArray⟩) := Lib.hid rfl
  generalize tagB s d = r at *
  clear hs hd h1 h2
  go_enter Tryd.func24, Tryd.ntmps24
  go_wp2_with fail
  refine (CL.out _ HT.out).mono ?_
  rintro e W' ⟨rfl, bk⟩
  replace hb := hb.trans (bk.mono hb.size)
  replace HT := Lib.hid (HT.out.step bk)
  clear bk CL
  go_wp2_with fail
  refine (CS.out _ HT.out).mono ?_
  rintro e W' ⟨rfl, bk⟩
  replace hb := hb.trans (bk.mono hb.size)
  replace HT := Lib.hid (HT.out.step bk)
  clear bk CS
  go_wp2_with fail
  refine (CM.out _ HT.out).mono ?_
  rintro e W' ⟨rfl, bk⟩
  replace hb := hb.trans (bk.mono hb.size)
  replace HT := Lib.hid (HT.out.step bk)
  clear bk CM
  go_wp2_with fail
  go_ret
  exact ⟨by rw [HH.out]; rfl, hb⟩
set_option maxHeartbeats 4000000 in
theorem psigned_true (s : ByteArray) (w : World) (hs : s.size ≤ 1000000) (hT : ShQ w) :
    Calls Tryd.prog 26 #[.bool true, .string s] w fun e w' => e = .returned (.string (sigB true s)) ∧ Below w.heap.size w w' := by
  have hb := Below.refl w.heap.size w
  have HT := Lib.hid hT
  clear hT
  have CR := Lib.hid (fun W => prep_sp W)
  have CS := Lib.hid (fun W (hW : ShQ W) => sum256_any kf hf s W hW.1 hW.2 (by omega))
  have HH : Hid (sigB true s = spB 64 ++ wTls ++ wWho true ++ wVer ++ ⟨(sha256L kf hf s.data.toList).toArray⟩) := Lib.hid rfl
  have hz := shaB_size s
  have hz0 := spB_size 64
  rw [shaB] at hz
  generalize (⟨(sha256L kf hf s.data.toList).toArray⟩ : ByteArray) = q at *
  generalize spB 64 = p at *
  have k1 : p.size + 9 ≤ 9223372036854775807 := by omega
  have k2 : p.size + 9 + 6 ≤ 9223372036854775807 := by omega
  have k3 : p.size + 9 + 6 + 19 ≤ 9223372036854775807 := by omega
  have k4 : p.size + 9 + 6 + 19 + q.size ≤ 9223372036854775807 := by omega
  clear hs hz hz0
  go_enter Tryd.func26, Tryd.ntmps26
  go_wp2_with fail
  refine (CR.out _).mono ?_
  rintro e W' ⟨rfl, bk⟩
  replace hb := hb.trans (bk.mono hb.size)
  replace HT := Lib.hid (HT.out.step bk)
  clear bk CR
  go_wp2_with fail
  refine (CS.out _ HT.out).mono ?_
  rintro e W' ⟨rfl, bk⟩
  replace hb := hb.trans (bk.mono hb.size)
  replace HT := Lib.hid (HT.out.step bk)
  clear bk CS
  go_wp2_with fail
  go_ret
  exact ⟨by rw [HH.out]; rfl, hb⟩
set_option maxHeartbeats 4000000 in
theorem psigned_false (s : ByteArray) (w : World) (hs : s.size ≤ 1000000) (hT : ShQ w) :
    Calls Tryd.prog 26 #[.bool false, .string s] w fun e w' => e = .returned (.string (sigB false s)) ∧ Below w.heap.size w w' := by
  have hb := Below.refl w.heap.size w
  have HT := Lib.hid hT
  clear hT
  have CR := Lib.hid (fun W => prep_sp W)
  have CS := Lib.hid (fun W (hW : ShQ W) => sum256_any kf hf s W hW.1 hW.2 (by omega))
  have HH : Hid (sigB false s = spB 64 ++ wTls ++ wWho false ++ wVer ++ ⟨(sha256L kf hf s.data.toList).toArray⟩) := Lib.hid rfl
  have hz := shaB_size s
  have hz0 := spB_size 64
  rw [shaB] at hz
  generalize (⟨(sha256L kf hf s.data.toList).toArray⟩ : ByteArray) = q at *
  generalize spB 64 = p at *
  have k1 : p.size + 9 ≤ 9223372036854775807 := by omega
  have k2 : p.size + 9 + 6 ≤ 9223372036854775807 := by omega
  have k3 : p.size + 9 + 6 + 19 ≤ 9223372036854775807 := by omega
  have k4 : p.size + 9 + 6 + 19 + q.size ≤ 9223372036854775807 := by omega
  clear hs hz hz0
  go_enter Tryd.func26, Tryd.ntmps26
  go_wp2_with fail
  refine (CR.out _).mono ?_
  rintro e W' ⟨rfl, bk⟩
  replace hb := hb.trans (bk.mono hb.size)
  replace HT := Lib.hid (HT.out.step bk)
  clear bk CR
  go_wp2_with fail
  refine (CS.out _ HT.out).mono ?_
  rintro e W' ⟨rfl, bk⟩
  replace hb := hb.trans (bk.mono hb.size)
  replace HT := Lib.hid (HT.out.step bk)
  clear bk CS
  go_wp2_with fail
  go_ret
  exact ⟨by rw [HH.out]; rfl, hb⟩
theorem psigned_any (b : Bool) (s : ByteArray) (w : World) (hs : s.size ≤ 1000000) (hT : ShQ w) :
    Calls Tryd.prog 26 #[.bool b, .string s] w fun e w' => e = .returned (.string (sigB b s)) ∧ Below w.heap.size w w' := by
  cases b
  · exact psigned_false s w hs hT
  · exact psigned_true s w hs hT
theorem kyCalls : KyCalls := ⟨fun w hT => pearly_any w hT, fun f l s w hT h1 _ h3 => psecret_any f l s w (by omega) (by omega) hT, fun s w hT h => phandshake_any s w (by omega) hT, fun s w hT h => pmaster_any s w (by omega) hT, fun n s w hT h => ptraffic_any n s w (by omega) hT, fun s w hT h => pnext_any s w (by omega) hT, fun s d w hT h h' => ptag_any s d w (by omega) (by omega) hT, fun b s w hT h => psigned_any b s w (by omega) hT⟩
end Go.Proofs.YtjjgakkijhjaiaaDoor
