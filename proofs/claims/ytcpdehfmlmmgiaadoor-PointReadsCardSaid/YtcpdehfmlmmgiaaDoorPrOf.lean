/- The reference's point of bytes. -/
import Derived.Test.YtcpdehfmlmmgiaaDoorPrSum
import Derived.Test.YtcpdehfmlmmgiaaDoorConvS
namespace Go.Proofs.YtcpdehfmlmmgiaaDoor
open Go.RowKit Go.Sort
set_option maxRecDepth 100000
set_option linter.unusedSimpArgs false
set_option linter.unusedVariables false

theorem and_127 (b : UInt8) : bits .and .u8 (b.toNat : Int) 127 = ((b.toNat % 128 : Nat) : Int) := by
  have h1 : (BitVec.ofInt 8 127).toNat = 2 ^ 7 - 1 := by decide
  have key : (BitVec.ofInt 8 (b.toNat : Int) &&& BitVec.ofInt 8 127).toNat = ((b.toNat : Int) % ((2 ^ 8 : Nat) : Int)).toNat % 2 ^ 7 := by
    rw [BitVec.toNat_and, BitVec.toNat_ofInt, h1, Nat.and_two_pow_sub_one_eq_mod]
  have hb := UInt8.toNat_lt b
  show IntKind.u8.wrap ((BitVec.ofInt 8 (b.toNat : Int) &&& BitVec.ofInt 8 127).toNat : Nat) = _
  rw [key, IntKind.wrap_u8]
  omega
/-- A block that was made, and the slice of it. -/
def tBlk (n c : Nat) (ob : Obj) : Told := ⟨fun w u => ∃ g, u = mkS n c g ∧ w.heap[g]? = some ob, fun w w' v hb ⟨g, h1, h2⟩ => ⟨g, h1, blk_below hb (blk_lt h2) h2⟩⟩
def oneB (c : UInt8) : Obj := .cells (bcells [c]) 5
theorem ofL_text (s : ByteArray) (h : s.size = 32) : s.extract 0 31 ++ ⟨#[UInt8.ofNat ((s.data.toList.getD 31 0).toNat % 128)]⟩ = ⟨(lowL s.data.toList).toArray⟩ := by
  apply ByteArray.ext
  apply Array.toList_inj.1
  rw [ByteArray.data_append, Array.toList_append, Lib.extract_data]
  rfl

set_option maxHeartbeats 1000000 in
theorem rofBad_any (s : ByteArray) (w : World) (hs : s.size ≠ 32) :
    Calls Tryd.prog 10 #[.string s] w fun e w' => (∃ d', e = .returned (.tuple #[d', .int .i64 1]) ∧ PtAt w' d' zeroP) ∧ Below w.heap.size w w' := by
  obtain ⟨hz, hi⟩ := zero_of_info infoR
  have hd : ((s.size : Int) != 32) = true := by simp; omega
  have hb := below_new w (.cells zeroR 34)
  have HR := Lib.hid (blk_new w (.cells zeroR 34))
  have C2 := Lib.hid (fun W => rzero_any W)
  clear hi hs
  go_enter Tryd.func10, Tryd.ntmps10
  go_wp2_with fail
  clear hz
  generalize (w.alloc _) = W0 at *
  generalize hBB : w.heap.size = B at *
  have HBB := Lib.hid hBB
  clear hBB hd
  refine (C2.out W0).mono ?_
  rintro e W1 ⟨⟨v1, rfl, h1⟩, bk⟩
  obtain ⟨x, y, z, t, rfl⟩ := h1.four
  replace hb := hb.trans (bk.mono (Nat.le_of_lt (blk_lt HR.out)))
  replace HR := Lib.hid (blk_below bk (blk_lt HR.out) HR.out)
  have SO := Lib.hid (sizeR x y z t); have OO := Lib.hid (zeroR_size x y z t); have NO := Lib.hid h1.one
  have H6 := Lib.hid (h1.rowed HR.out ⟨_, _, _, rfl⟩ #[x, y, z, t])
  clear bk h1 C2
  go_wp2_with (with_reducible refine wpList_store_row rfl 34 _ _ rfl B #[x, y, z, t] rfl rfl 34 _ HR.out SO.out OO.out NO.out ?_)
  exact bodyPost_ret (results_row_tmpF (by rfl) _ _ B 34 _ (0, 0) _ rfl (setRow_heap _ _ _ _ _ _ HR.out) Tryd.underlying34 rfl SO.out) rfl ⟨⟨_, rfl, H6.out⟩, by rw [HBB.out]; exact below_setRow hb (Nat.le_refl _) _⟩

set_option maxHeartbeats 8000000 in
theorem rofOk_any (s : ByteArray) (w : World) (hs : s.size = 32) :
    Calls Tryd.prog 10 #[.string s] w fun e w' => (∃ d', e = .returned (.tuple #[d', .int .i64 (ofE s.data.toList)]) ∧ PtAt w' d' (ofP s.data.toList)) ∧ Below w.heap.size w w' := by
  obtain ⟨hz, hi⟩ := zero_of_info infoR
  have hd : ((s.size : Int) != 32) = false := by simp [hs]
  have hsl : s.data.toList.length = 32 := by rw [← Lib.size_eq]; exact hs
  have hb := below_new w (.cells zeroR 34)
  have HR := Lib.hid (blk_new w (.cells zeroR 34))
  have hin : 31 < s.size := by omega
  have hg31 := getDF_byte s 31 hin
  have htx := ofL_text s hs
  have hand := and_127 s[31]
  rw [hg31] at htx
  have hcb : (UInt8.ofNat (s[31].toNat % 128)).toNat = s[31].toNat % 128 := by rw [UInt8.toNat_ofNat']; omega
  rw [← hcb] at hand
  generalize UInt8.ofNat (s[31].toNat % 128) = c8 at *
  have hl31 := lowL_length s.data.toList hsl
  have hszT : (⟨(lowL s.data.toList).toArray⟩ : ByteArray).size = 32 := hl31
  have hOf := fun W => ofRef_any ⟨(lowL s.data.toList).toArray⟩ W hszT
  rw [show (⟨(lowL s.data.toList).toArray⟩ : ByteArray).data.toList = lowL s.data.toList from rfl] at hOf
  have hlv := nV_leV (lowL s.data.toList)
  rw [hl31] at hlv
  rw [hlv] at hOf
  have CO := Lib.hid hOf
  have hsame := low_same (lowL s.data.toList) pF hl31 pF_pos (by decide)
  have htl : ((⟨(leF (nV (lowL s.data.toList) % pF) 32).toArray⟩ : ByteArray).toList == (⟨(lowL s.data.toList).toArray⟩ : ByteArray).toList) = decide (lowP s.data.toList < pF) := by
    rw [Lib.toList_data, Lib.toList_data]; exact hsame
  have CB := Lib.hid (fun d W g => bytesRef_any d (nV (lowL s.data.toList) % pF) W g)
  have hodd : decide ((128 : Int) ≤ (s[31].toNat : Int)) = oddP s.data.toList := by
    rw [oddP, hg31]
    rw [decide_eq_decide]
    omega
  have CZ := Lib.hid (fun W => rzero_any W)
  have hE : isP s.data.toList = (decide (lowP s.data.toList < pF) && (rootF (sqrP (lowP s.data.toList))).2 && !(oddP s.data.toList && decide ((rootF (sqrP (lowP s.data.toList))).1 = 0))) := rfl
  have hX : xP s.data.toList = if oddP s.data.toList then subF 0 (rootF (sqrP (lowP s.data.toList))).1 else (rootF (sqrP (lowP s.data.toList))).1 := rfl
  have HP1 : Hid (ofP s.data.toList = if isP s.data.toList then ⟨xP s.data.toList, lowP s.data.toList, 1, mulF (xP s.data.toList) (lowP s.data.toList)⟩ else zeroP) := Lib.hid rfl
  have HE1 : Hid (ofE s.data.toList = if isP s.data.toList then 0 else 21) := Lib.hid rfl
  have HIs := Lib.hid hE; have HXs := Lib.hid hX
  have hs0 : (s.extract 0 31).size = 31 := by rw [ByteArray.size_extract]; omega
  clear hE hX hsl hlv hl31 hsame hOf hg31 hi hcb
  rw [show nV (lowL s.data.toList) = lowP s.data.toList from rfl] at CO CB htl
  generalize hofp : ofP s.data.toList = OP at *
  generalize hofe : ofE s.data.toList = OE at *
  have HOP := Lib.hid hofp; have HOE := Lib.hid hofe
  clear hofp hofe
  generalize isP s.data.toList = isb at *
  generalize xP s.data.toList = xx at *
  generalize lowP s.data.toList = V at *
  generalize oddP s.data.toList = od at *
  generalize (⟨(lowL s.data.toList).toArray⟩ : ByteArray) = tx at *
  obtain ⟨s31, hs31⟩ : ∃ x, x = s.extract 0 31 := ⟨_, rfl⟩
  have HS31 := Lib.hid hs31
  rw [← hs31] at htx hs0
  clear hs31
  have hone : Obj.cells #[.int .u8 (c8.toNat : Int)] 5 = oneB c8 := rfl
  go_enter Tryd.func10, Tryd.ntmps10
  go_wp2_with fail
  clear hz
  generalize (w.alloc _) = W0 at *
  generalize hBB : w.heap.size = B at *
  have HBB := Lib.hid hBB
  clear hBB hd
  refine wp_region_told 8 81 [(Told.val (.string s), [0]), (Told.val (.string s31), [21]), (Told.val (.string s), [0]), (Told.val (.int .u8 (s[31].toNat : Int)), [23]), (Told.val (.int .u8 (c8.toNat : Int)), [24]), (tBlk 1 1 (oneB c8), [25]), (Told.val (.string ⟨#[c8]⟩), [26]), (Told.val (.string tx), [22, 27])]
    (by kernel_rfl) (by kernel_rfl) rfl ?_ ?_
  · simp only [List.take_succ_cons, List.take_zero, toldObl, and_true]
    refine ⟨?_, ?_, ?_, ?_, ?_, ?_, ?_, ?_⟩
    · intro a w hb h
      have e0 : a.tmps.getD 0 undef = .string s := h 0 (by simp)
      simp only [Array.getD_eq_getD_getElem?] at e0
      simp [go_sem, e0, toldQuiet, Told.val]
      exact Below.refl _ _
    · intro a w hb h
      have e0 : a.tmps.getD 21 undef = .string s := h 21 (by simp)
      simp only [Array.getD_eq_getD_getElem?] at e0
      simp [go_sem, e0, toldQuiet, Told.val, hs, HS31.out]
      exact Below.refl _ _
    · intro a w hb h
      have e0 : a.tmps.getD 0 undef = .string s := h 0 (by simp)
      simp only [Array.getD_eq_getD_getElem?] at e0
      simp [go_sem, e0, toldQuiet, Told.val]
      exact Below.refl _ _
    · intro a w hb h
      have e0 : a.tmps.getD 23 undef = .string s := h 23 (by simp)
      simp only [Array.getD_eq_getD_getElem?] at e0
      simp [go_sem, e0, toldQuiet, Told.val, hin, show (31 : Int) < (s.size : Int) by omega]
      exact Below.refl _ _
    · intro a w hb h
      have e0 : a.tmps.getD 24 undef = .int .u8 (s[31].toNat : Int) := h 24 (by simp)
      simp only [Array.getD_eq_getD_getElem?] at e0
      simp [go_sem, e0, toldQuiet, Told.val, hand]
      exact Below.refl _ _
    · intro a w hb h
      have e0 : a.tmps.getD 25 undef = .int .u8 (c8.toNat : Int) := h 25 (by simp)
      simp only [Array.getD_eq_getD_getElem?] at e0
      simp [go_sem, e0, toldQuiet, hone]
      exact ⟨below_new w _, w.heap.size, rfl, blk_new w _⟩
    · intro a w hb h
      obtain ⟨g, e0, hg⟩ : ∃ g, a.tmps.getD 26 undef = mkS 1 1 g ∧ w.heap[g]? = some (oneB c8) := h 26 (by simp)
      simp only [Array.getD_eq_getD_getElem?, mkS] at e0
      simp [go_sem, e0, toldQuiet, Told.val, text_row w g 1 1 [c8] rfl hg]
      exact Below.refl _ _
    · intro a w hb h
      have e0 : a.tmps.getD 22 undef = .string s31 := h 22 (by simp)
      have e1 : a.tmps.getD 27 undef = .string ⟨#[c8]⟩ := h 27 (by simp)
      simp only [Array.getD_eq_getD_getElem?] at e0 e1
      simp [go_sem, e0, e1, toldQuiet, Told.val, htx, hs0]
      exact Below.refl _ _
  simp only [List.take_succ_cons, List.take_zero, List.drop_succ_cons, List.drop_zero, toldEnd, Act.put, List.setIfInBounds_toArray, List.set_cons_succ, List.set_cons_zero]
  intro W1 bk v21 q21 v22 q22 v23 q23 v24 q24 v25 q25 v26 q26 v27 q27 v28 q28
  obtain rfl := q28.symm
  replace hb := hb.trans (bk.mono (Nat.le_of_lt (blk_lt HR.out)))
  replace HR := Lib.hid (blk_below bk (blk_lt HR.out) HR.out)
  clear bk q21 q22 q23 q24 q25 q26 q27 q28 htx hand hone hs0
  go_wp2_with fail
  refine (CO.out W1).mono ?_
  rintro e W2 ⟨⟨dy, rfl, hdy⟩, bk⟩
  have Hdy := Lib.hid hdy
  replace hb := hb.trans (bk.mono (Nat.le_of_lt (blk_lt HR.out)))
  replace HR := Lib.hid (blk_below bk (blk_lt HR.out) HR.out)
  clear bk hdy CO
  go_wp2_with fail
  refine (CB.out dy W2 Hdy.out).mono ?_
  rintro e W3 ⟨rfl, bk⟩
  replace Hdy := Lib.hid (Hdy.out.step bk)
  replace hb := hb.trans (bk.mono (Nat.le_of_lt (blk_lt HR.out)))
  replace HR := Lib.hid (blk_below bk (blk_lt HR.out) HR.out)
  clear bk CB
  generalize (⟨(leF (V % pF) 32).toArray⟩ : ByteArray) = ty at *
  by_cases hV : V < pF
  case neg =>
    have hq : (ty.toList == tx.toList) = false := by rw [htl, decide_eq_false hV]
    have hf : isb = false := by rw [HIs.out, decide_eq_false hV]; rfl
    rw [hf, if_neg (by decide)] at HP1 HE1
    clear htl hf HIs
    go_wp2_with fail
    refine (CZ.out W3).mono ?_
    rintro e W4 ⟨⟨vz, rfl, hvz⟩, bk⟩
    obtain ⟨ax, ay, az, at', rfl⟩ := hvz.four
    replace hb := hb.trans (bk.mono (Nat.le_of_lt (blk_lt HR.out)))
    replace HR := Lib.hid (blk_below bk (blk_lt HR.out) HR.out)
    have SO := Lib.hid (sizeR ax ay az at'); have OO := Lib.hid (zeroR_size ax ay az at'); have NO := Lib.hid hvz.one
    have H6 := hvz.rowed HR.out ⟨_, _, _, rfl⟩ #[ax, ay, az, at']
    rw [← HP1.out] at H6
    have H7 := Lib.hid H6
    clear bk hvz H6
    go_wp2_with (with_reducible refine wpList_store_row rfl 34 _ _ rfl B #[ax, ay, az, at'] rfl rfl 34 _ HR.out SO.out OO.out NO.out ?_)
    exact bodyPost_ret (results_row_tmpF (by rfl) _ _ B 34 _ (0, 0) _ rfl (setRow_heap _ _ _ _ _ _ HR.out) Tryd.underlying34 rfl SO.out) rfl ⟨⟨_, by rw [HE1.out]; rfl, H7.out⟩, by rw [HBB.out]; exact below_setRow hb (Nat.le_refl _) _⟩
  have hq : (ty.toList == tx.toList) = true := by rw [htl, decide_eq_true hV]
  rw [Nat.mod_eq_of_lt hV] at Hdy
  have K1 := Lib.hid (fun W => one_any W)
  have K2 := Lib.hid (fun W g => mulRef_any dy dy V V W hV hV g g)
  have K3 := Lib.hid (fun d e W g1 g2 => subRef_any d e (mulF V V) 1 W (mulF_lt _ _) (by decide) g1 g2)
  have K4 := Lib.hid (fun W => rfac_any W)
  have K5 := Lib.hid (fun d e W g1 g2 => mulRef_any d e facF (mulF V V) W facF_lt (mulF_lt _ _) g1 g2)
  have K6 := Lib.hid (fun d e W g1 g2 => addRef_any d e (mulF facF (mulF V V)) 1 W (mulF_lt _ _) (by decide) g1 g2)
  have K7 := Lib.hid (fun d W g1 => invRef_any d (addF (mulF facF (mulF V V)) 1) W (addF_lt _ _) g1)
  have K8 := Lib.hid (fun d e W g1 g2 => mulRef_any d e (subF (mulF V V) 1) (invF (addF (mulF facF (mulF V V)) 1)) W (subF_lt _ _) (powF_lt _ _) g1 g2)
  rw [show mulF (subF (mulF V V) 1) (invF (addF (mulF facF (mulF V V)) 1)) = sqrP V from rfl] at K8
  have K9 := Lib.hid (fun d W g1 => rootRef_any d (sqrP V) W (mulF_lt _ _) g1)
  have hrl := rootF_lt (sqrP V)
  generalize (rootF (sqrP V)).1 = rx at *
  generalize (rootF (sqrP V)).2 = rb at *
  generalize sqrP V = sq at *
  generalize invF (addF (mulF facF (mulF V V)) 1) = iv at *
  generalize addF (mulF facF (mulF V V)) 1 = vv at *
  generalize mulF facF (mulF V V) = fy at *
  generalize subF (mulF V V) 1 = uu at *
  generalize mulF V V = yy at *
  rw [decide_eq_true hV, Bool.true_and] at HIs
  have HVl := Lib.hid hV
  clear htl hV
  go_wp2_with fail
  refine (K1.out W3 ).mono ?_
  rintro e W4 ⟨⟨d1, rfl, hd1⟩, bk⟩
  have Hd1 := Lib.hid hd1
  replace Hdy := Lib.hid (Hdy.out.step bk)
  replace hb := hb.trans (bk.mono (Nat.le_of_lt (blk_lt HR.out)))
  replace HR := Lib.hid (blk_below bk (blk_lt HR.out) HR.out)
  clear bk hd1
  go_wp2_with fail
  refine (K2.out W4 Hdy.out).mono ?_
  rintro e W5 ⟨⟨dyy, rfl, hdyy⟩, bk⟩
  have Hdyy := Lib.hid hdyy
  replace Hdy := Lib.hid (Hdy.out.step bk)
  replace Hd1 := Lib.hid (Hd1.out.step bk)
  replace hb := hb.trans (bk.mono (Nat.le_of_lt (blk_lt HR.out)))
  replace HR := Lib.hid (blk_below bk (blk_lt HR.out) HR.out)
  clear bk hdyy
  go_wp2_with fail
  refine (K3.out dyy d1 W5 Hdyy.out Hd1.out).mono ?_
  rintro e W6 ⟨⟨du, rfl, hdu⟩, bk⟩
  have Hdu := Lib.hid hdu
  replace Hdy := Lib.hid (Hdy.out.step bk)
  replace Hd1 := Lib.hid (Hd1.out.step bk)
  replace Hdyy := Lib.hid (Hdyy.out.step bk)
  replace hb := hb.trans (bk.mono (Nat.le_of_lt (blk_lt HR.out)))
  replace HR := Lib.hid (blk_below bk (blk_lt HR.out) HR.out)
  clear bk hdu
  go_wp2_with fail
  refine (K4.out W6 ).mono ?_
  rintro e W7 ⟨⟨df, rfl, hdf⟩, bk⟩
  have Hdf := Lib.hid hdf
  replace Hdy := Lib.hid (Hdy.out.step bk)
  replace Hd1 := Lib.hid (Hd1.out.step bk)
  replace Hdyy := Lib.hid (Hdyy.out.step bk)
  replace Hdu := Lib.hid (Hdu.out.step bk)
  replace hb := hb.trans (bk.mono (Nat.le_of_lt (blk_lt HR.out)))
  replace HR := Lib.hid (blk_below bk (blk_lt HR.out) HR.out)
  clear bk hdf
  go_wp2_with fail
  refine (K5.out df dyy W7 Hdf.out Hdyy.out).mono ?_
  rintro e W8 ⟨⟨dfy, rfl, hdfy⟩, bk⟩
  have Hdfy := Lib.hid hdfy
  replace Hdy := Lib.hid (Hdy.out.step bk)
  replace Hd1 := Lib.hid (Hd1.out.step bk)
  replace Hdyy := Lib.hid (Hdyy.out.step bk)
  replace Hdu := Lib.hid (Hdu.out.step bk)
  replace Hdf := Lib.hid (Hdf.out.step bk)
  replace hb := hb.trans (bk.mono (Nat.le_of_lt (blk_lt HR.out)))
  replace HR := Lib.hid (blk_below bk (blk_lt HR.out) HR.out)
  clear bk hdfy
  go_wp2_with fail
  refine (K6.out dfy d1 W8 Hdfy.out Hd1.out).mono ?_
  rintro e W9 ⟨⟨dv, rfl, hdv⟩, bk⟩
  have Hdv := Lib.hid hdv
  replace Hdy := Lib.hid (Hdy.out.step bk)
  replace Hd1 := Lib.hid (Hd1.out.step bk)
  replace Hdyy := Lib.hid (Hdyy.out.step bk)
  replace Hdu := Lib.hid (Hdu.out.step bk)
  replace Hdfy := Lib.hid (Hdfy.out.step bk)
  replace hb := hb.trans (bk.mono (Nat.le_of_lt (blk_lt HR.out)))
  replace HR := Lib.hid (blk_below bk (blk_lt HR.out) HR.out)
  clear bk hdv
  go_wp2_with fail
  refine (K7.out dv W9 Hdv.out).mono ?_
  rintro e W10 ⟨⟨di, rfl, hdi⟩, bk⟩
  have Hdi := Lib.hid hdi
  replace Hdy := Lib.hid (Hdy.out.step bk)
  replace Hd1 := Lib.hid (Hd1.out.step bk)
  replace Hdu := Lib.hid (Hdu.out.step bk)
  replace Hdv := Lib.hid (Hdv.out.step bk)
  replace hb := hb.trans (bk.mono (Nat.le_of_lt (blk_lt HR.out)))
  replace HR := Lib.hid (blk_below bk (blk_lt HR.out) HR.out)
  clear bk hdi
  go_wp2_with fail
  refine (K8.out du di W10 Hdu.out Hdi.out).mono ?_
  rintro e W11 ⟨⟨dq, rfl, hdq⟩, bk⟩
  have Hdq := Lib.hid hdq
  replace Hdy := Lib.hid (Hdy.out.step bk)
  replace Hd1 := Lib.hid (Hd1.out.step bk)
  replace Hdu := Lib.hid (Hdu.out.step bk)
  replace Hdi := Lib.hid (Hdi.out.step bk)
  replace hb := hb.trans (bk.mono (Nat.le_of_lt (blk_lt HR.out)))
  replace HR := Lib.hid (blk_below bk (blk_lt HR.out) HR.out)
  clear bk hdq
  go_wp2_with fail
  refine (K9.out dq W11 Hdq.out).mono ?_
  rintro e W12 ⟨⟨dx, rfl, hdx⟩, bk⟩
  have Hdx := Lib.hid hdx
  replace Hdy := Lib.hid (Hdy.out.step bk)
  replace Hd1 := Lib.hid (Hd1.out.step bk)
  replace Hdq := Lib.hid (Hdq.out.step bk)
  replace hb := hb.trans (bk.mono (Nat.le_of_lt (blk_lt HR.out)))
  replace HR := Lib.hid (blk_below bk (blk_lt HR.out) HR.out)
  clear bk hdx
  have CD := Lib.hid (fun W => zeroD_any W)
  clear CZ K1 K2 K3 K4 K5 K6 K7 K8 K9 Hdf Hdfy Hdyy Hdv Hdu Hdi Hdq
  have CZ := Lib.hid (fun W => rzero_any W)
  cases rb
  case false =>
    have hf : isb = false := by rw [HIs.out]; rfl
    rw [hf, if_neg (by decide)] at HP1 HE1
    clear hf HIs CD
    go_wp2_with fail
    refine (CZ.out W12).mono ?_
    rintro e U1 ⟨⟨vz, rfl, hvz⟩, bk⟩
    obtain ⟨ax, ay, az, at', rfl⟩ := hvz.four
    replace hb := hb.trans (bk.mono (Nat.le_of_lt (blk_lt HR.out)))
    replace HR := Lib.hid (blk_below bk (blk_lt HR.out) HR.out)
    have SO := Lib.hid (sizeR ax ay az at'); have OO := Lib.hid (zeroR_size ax ay az at'); have NO := Lib.hid hvz.one
    have H6 := hvz.rowed HR.out ⟨_, _, _, rfl⟩ #[ax, ay, az, at']
    rw [← HP1.out] at H6
    have H7 := Lib.hid H6
    clear bk hvz H6
    go_wp2_with (with_reducible refine wpList_store_row rfl 34 _ _ rfl B #[ax, ay, az, at'] rfl rfl 34 _ HR.out SO.out OO.out NO.out ?_)
    exact bodyPost_ret (results_row_tmpF (by rfl) _ _ B 34 _ (0, 0) _ rfl (setRow_heap _ _ _ _ _ _ HR.out) Tryd.underlying34 rfl SO.out) rfl ⟨⟨_, by rw [HE1.out]; rfl, H7.out⟩, by rw [HBB.out]; exact below_setRow hb (Nat.le_refl _) _⟩
  rw [Bool.true_and] at HIs
  cases od
  case true =>
    have CS := Lib.hid (fun dz W g1 g2 => sameRef_any dx dz rx 0 W (Nat.lt_trans hrl pF_lt_mF) (by decide) g1 g2)
    go_wp2_with fail
    refine (CD.out W12).mono ?_
    rintro e U1 ⟨⟨dz, rfl, hdz⟩, bk⟩
    have Hdz := Lib.hid hdz
    replace Hdx := Lib.hid (Hdx.out.step bk); replace Hdy := Lib.hid (Hdy.out.step bk); replace Hd1 := Lib.hid (Hd1.out.step bk)
    replace hb := hb.trans (bk.mono (Nat.le_of_lt (blk_lt HR.out)))
    replace HR := Lib.hid (blk_below bk (blk_lt HR.out) HR.out)
    clear bk hdz
    go_wp2_with fail
    refine (CS.out dz U1 Hdx.out Hdz.out).mono ?_
    rintro e U2 ⟨rfl, bk⟩
    replace Hdx := Lib.hid (Hdx.out.step bk); replace Hdy := Lib.hid (Hdy.out.step bk); replace Hd1 := Lib.hid (Hd1.out.step bk)
    replace hb := hb.trans (bk.mono (Nat.le_of_lt (blk_lt HR.out)))
    replace HR := Lib.hid (blk_below bk (blk_lt HR.out) HR.out)
    clear bk CS Hdz
    by_cases hx0 : rx = 0
    case pos =>
      rw [decide_eq_true hx0] at HIs ⊢
      have hf : isb = false := by rw [HIs.out]; rfl
      rw [hf, if_neg (by decide)] at HP1 HE1
      clear hf HIs CD
      go_wp2_with fail
      refine (CZ.out U2).mono ?_
      rintro e U3 ⟨⟨vz, rfl, hvz⟩, bk⟩
      obtain ⟨ax, ay, az, at', rfl⟩ := hvz.four
      replace hb := hb.trans (bk.mono (Nat.le_of_lt (blk_lt HR.out)))
      replace HR := Lib.hid (blk_below bk (blk_lt HR.out) HR.out)
      have SO := Lib.hid (sizeR ax ay az at'); have OO := Lib.hid (zeroR_size ax ay az at'); have NO := Lib.hid hvz.one
      have H6 := hvz.rowed HR.out ⟨_, _, _, rfl⟩ #[ax, ay, az, at']
      rw [← HP1.out] at H6
      have H7 := Lib.hid H6
      clear bk hvz H6
      go_wp2_with (with_reducible refine wpList_store_row rfl 34 _ _ rfl B #[ax, ay, az, at'] rfl rfl 34 _ HR.out SO.out OO.out NO.out ?_)
      exact bodyPost_ret (results_row_tmpF (by rfl) _ _ B 34 _ (0, 0) _ rfl (setRow_heap _ _ _ _ _ _ HR.out) Tryd.underlying34 rfl SO.out) rfl ⟨⟨_, by rw [HE1.out]; rfl, H7.out⟩, by rw [HBB.out]; exact below_setRow hb (Nat.le_refl _) _⟩
    rw [decide_eq_false hx0] at HIs ⊢
    have hT : isb = true := by rw [HIs.out]; rfl
    rw [hT, if_pos rfl] at HP1 HE1
    have hxx : xx = subF 0 rx := by rw [HXs.out]; simp
    have CM := Lib.hid (fun d W g1 g2 => mulRef_any d dy (subF 0 rx) V W (subF_lt _ _) HVl.out g1 g2)
    have CN := Lib.hid (fun dz W g1 g2 => subRef_any dz dx 0 rx W (by decide) hrl g1 g2)
    rw [← hxx] at CM CN
    clear hT hxx HIs HXs
    go_wp2_with fail
    refine (CD.out U2).mono ?_
    rintro e U3 ⟨⟨dz2, rfl, hdz⟩, bk⟩
    have Hdz := Lib.hid hdz
    replace Hdx := Lib.hid (Hdx.out.step bk); replace Hdy := Lib.hid (Hdy.out.step bk); replace Hd1 := Lib.hid (Hd1.out.step bk)
    replace hb := hb.trans (bk.mono (Nat.le_of_lt (blk_lt HR.out)))
    replace HR := Lib.hid (blk_below bk (blk_lt HR.out) HR.out)
    clear bk hdz CD
    go_wp2_with fail
    refine (CN.out dz2 U3 Hdz.out Hdx.out).mono ?_
    rintro e U4 ⟨⟨dn, rfl, hdn⟩, bk⟩
    have Hdn := Lib.hid hdn
    replace Hdy := Lib.hid (Hdy.out.step bk); replace Hd1 := Lib.hid (Hd1.out.step bk)
    replace hb := hb.trans (bk.mono (Nat.le_of_lt (blk_lt HR.out)))
    replace HR := Lib.hid (blk_below bk (blk_lt HR.out) HR.out)
    clear bk hdn CN Hdz Hdx
    go_wp2_with fail
    refine (CM.out dn U4 Hdn.out Hdy.out).mono ?_
    rintro e U5 ⟨⟨dt, rfl, hdt⟩, bk⟩
    have Hdt := Lib.hid hdt
    replace Hdn := Lib.hid (Hdn.out.step bk); replace Hdy := Lib.hid (Hdy.out.step bk); replace Hd1 := Lib.hid (Hd1.out.step bk)
    replace hb := hb.trans (bk.mono (Nat.le_of_lt (blk_lt HR.out)))
    replace HR := Lib.hid (blk_below bk (blk_lt HR.out) HR.out)
    clear bk hdt CM
    have H5 : PtAt U5 (.agg #[dn, dy, d1, dt]) ⟨xx, V, 1, mulF xx V⟩ := ⟨dn, dy, d1, dt, rfl, Hdn.out, Hdy.out, Hd1.out, Hdt.out⟩
    have hbd := build_pt Hdn.out Hdy.out Hd1.out Hdt.out
    have SO := Lib.hid (sizeR dn dy d1 dt); have OO := Lib.hid (zeroR_size dn dy d1 dt); have NO := Lib.hid H5.one
    have H6 := H5.rowed HR.out ⟨_, _, _, rfl⟩ #[dn, dy, d1, dt]
    rw [← HP1.out] at H6
    have H7 := Lib.hid H6
    clear H5 H6
    go_wp2_with (first
      | (with_reducible refine wpList_build_pt rfl _ _ _ _ rfl dn dy d1 dt rfl rfl rfl rfl hbd ?_)
      | (with_reducible refine wpList_store_row rfl 34 _ _ rfl B #[dn, dy, d1, dt] rfl rfl 34 _ HR.out SO.out OO.out NO.out ?_))
    exact bodyPost_ret (results_row_tmpF (by rfl) _ _ B 34 _ (0, 0) _ rfl (setRow_heap _ _ _ _ _ _ HR.out) Tryd.underlying34 rfl SO.out) rfl ⟨⟨_, by rw [HE1.out]; rfl, H7.out⟩, by rw [HBB.out]; exact below_setRow hb (Nat.le_refl _) _⟩
  case false =>
    have hT : isb = true := by rw [HIs.out]; rfl
    rw [hT, if_pos rfl] at HP1 HE1
    have hxx : xx = rx := by rw [HXs.out]; simp
    have CM := Lib.hid (fun d W g1 g2 => mulRef_any d dy rx V W hrl HVl.out g1 g2)
    rw [← hxx] at CM Hdx
    clear hT hxx HIs HXs CD
    go_wp2_with fail
    refine (CM.out dx W12 Hdx.out Hdy.out).mono ?_
    rintro e U5 ⟨⟨dt, rfl, hdt⟩, bk⟩
    have Hdt := Lib.hid hdt
    replace Hdx := Lib.hid (Hdx.out.step bk); replace Hdy := Lib.hid (Hdy.out.step bk); replace Hd1 := Lib.hid (Hd1.out.step bk)
    replace hb := hb.trans (bk.mono (Nat.le_of_lt (blk_lt HR.out)))
    replace HR := Lib.hid (blk_below bk (blk_lt HR.out) HR.out)
    clear bk hdt CM
    have H5 : PtAt U5 (.agg #[dx, dy, d1, dt]) ⟨xx, V, 1, mulF xx V⟩ := ⟨dx, dy, d1, dt, rfl, Hdx.out, Hdy.out, Hd1.out, Hdt.out⟩
    have hbd := build_pt Hdx.out Hdy.out Hd1.out Hdt.out
    have SO := Lib.hid (sizeR dx dy d1 dt); have OO := Lib.hid (zeroR_size dx dy d1 dt); have NO := Lib.hid H5.one
    have H6 := H5.rowed HR.out ⟨_, _, _, rfl⟩ #[dx, dy, d1, dt]
    rw [← HP1.out] at H6
    have H7 := Lib.hid H6
    clear H5 H6
    go_wp2_with (first
      | (with_reducible refine wpList_build_pt rfl _ _ _ _ rfl dx dy d1 dt rfl rfl rfl rfl hbd ?_)
      | (with_reducible refine wpList_store_row rfl 34 _ _ rfl B #[dx, dy, d1, dt] rfl rfl 34 _ HR.out SO.out OO.out NO.out ?_))
    exact bodyPost_ret (results_row_tmpF (by rfl) _ _ B 34 _ (0, 0) _ rfl (setRow_heap _ _ _ _ _ _ HR.out) Tryd.underlying34 rfl SO.out) rfl ⟨⟨_, by rw [HE1.out]; rfl, H7.out⟩, by rw [HBB.out]; exact below_setRow hb (Nat.le_refl _) _⟩
end Go.Proofs.YtcpdehfmlmmgiaaDoor
