/- The reference's share. -/
import Derived.Test.YtnodllkfmdhhlaaDoorLadByte
import Derived.Test.YtnodllkfmdhhlaaDoorFldR
import Derived.Test.YtnodllkfmdhhlaaDoorSwap
namespace Go.Proofs.YtnodllkfmdhhlaaDoor
open Go.RowKit Go.Sort
set_option maxRecDepth 100000
set_option linter.unusedSimpArgs false
set_option linter.unusedVariables false

set_option maxHeartbeats 1000000 in
theorem rShareBad_any (s p : ByteArray) (w : World) (h : s.size ≠ 32 ∨ p.size ≠ 32) :
    Calls Tryd.prog 8 #[.string s, .string p] w fun e w' => e = .returned (.tuple #[.string ⟨#[]⟩, .int .i64 21]) ∧ w = w' := by
  by_cases h1 : s.size = 32
  · have d1 : ((s.size : Int) != 32) = false := by simp; omega
    have d2 : ((p.size : Int) != 32) = true := by simp; omega
    go_enter Tryd.func8, Tryd.ntmps8
    go_wp2_with fail
    go_ret2
    exact ⟨rfl, rfl⟩
  · have d1 : ((s.size : Int) != 32) = true := by simp; omega
    go_enter Tryd.func8, Tryd.ntmps8
    go_wp2_with fail
    go_ret2
    exact ⟨rfl, rfl⟩

theorem same_texts (s : ByteArray) : (s.toList == s.toList) = true := by simp
/-- The numbers of a step, each by its name. -/
theorem rung_parts (u A B C D : Nat) : ∃ m l o q r t1 s t2 t x y c2 yy d2 a2 z1 z2 b2 : Nat, addF A B = m ∧ subF A B = l ∧ mulF m m = o ∧ mulF l l = q ∧ subF o q = r ∧ subF C D = t1 ∧ mulF t1 m = s ∧ addF C D = t2 ∧ mulF t2 l = t ∧ addF t s = x ∧ subF t s = y ∧ mulF x x = c2 ∧ mulF y y = yy ∧ mulF u yy = d2 ∧ mulF o q = a2 ∧ mulF 121665 r = z1 ∧ addF o z1 = z2 ∧ mulF r z2 = b2 ∧ rungMid u ⟨A, B, C, D⟩ = ⟨a2, b2, c2, d2⟩ :=
  ⟨_, _, _, _, _, _, _, _, _, _, _, _, _, _, _, _, _, _, rfl, rfl, rfl, rfl, rfl, rfl, rfl, rfl, rfl, rfl, rfl, rfl, rfl, rfl, rfl, rfl, rfl, rfl, rfl⟩
set_option maxHeartbeats 8000000 in
theorem rShare_any (s p : ByteArray) (w : World) (hs : s.size = 32) (hp : p.size = 32) :
    Calls Tryd.prog 8 #[.string s, .string p] w fun e w' => e = .returned (ansL s.data.toList p.data.toList) ∧ Below w.heap.size w w' := by
  have d1 : ((s.size : Int) != 32) = false := by simp; omega
  have d2 : ((p.size : Int) != 32) = false := by simp; omega
  have hp31 : (31 : Int) ≤ (p.size : Int) := by omega
  have hp32 : (31 : Int) < (p.size : Int) := by omega
  have HSL : Hid (s.data.toList.length = 32) := Lib.hid (by rw [← Lib.size_eq]; exact hs)
  have HPL : Hid (p.data.toList.length = 32) := Lib.hid (by rw [← Lib.size_eq]; exact hp)
  have HPS := Lib.hid hp
  obtain ⟨mb, hmb⟩ : ∃ mb, mb = p.data.toList.getD 31 0 &&& 127 := ⟨_, rfl⟩
  have am := byte_and (p.data.toList.getD 31 0) 127
  rw [show (((127 : UInt8).toNat : Nat) : Int) = 127 from rfl, ← hmb] at am
  have hix : ∀ W : World, (Instr.index 9 (.string p) (.int .i64 31)).run Tryd.prog W = .ok (.int .u8 ((p.data.toList.getD 31 0).toNat : Int)) W := fun W => at_byte p 31 (by omega) W
  have hu1 : (p.extract 0 31).size = 31 := by rw [ByteArray.size_extract]; omega
  have hcat : ((p.extract 0 31 ++ (⟨[mb].toArray⟩ : ByteArray)).data.toList) = maskL p.data.toList := by
    rw [show (p.extract 0 31 ++ (⟨[mb].toArray⟩ : ByteArray)).data.toList = (p.extract 0 31).data.toList ++ [mb] by rw [ByteArray.data_append]; simp, Lib.extract_data, hmb]
    exact maskL_take _ HPL.out
  have hcs : ((p.extract 0 31) ++ (⟨[mb].toArray⟩ : ByteArray)).size = 32 := by rw [ByteArray.size_append, hu1]; rfl
  have hz : ¬ 9223372036854775807 < min 31 p.size + 1 := by omega
  have HOF := Lib.hid (fun W => ofRef_any (p.extract 0 31 ++ (⟨[mb].toArray⟩ : ByteArray)) W hcs)
  rw [hcat] at HOF
  have HOF : Hid (∀ W, Calls Tryd.prog 16 #[.string (p.extract 0 31 ++ (⟨[mb].toArray⟩ : ByteArray))] W fun e w' => (∃ d', e = .returned (.tuple #[d', .int .i64 0]) ∧ DigAt w' d' (digN (pubF p.data.toList))) ∧ Below W.heap.size W w') := HOF
  clear hcat hcs hmb
  obtain ⟨cap, hcv, hown, hbo⟩ := conv_bytes s w
  rw [hs] at hcv
  obtain ⟨c0, f0⟩ := own_byte hown 0 (by rw [HSL.out]; decide)
  have hown1 := own_byte_put hown 0 (by rw [HSL.out]; decide) (s.data.toList.getD 0 0 &&& 248)
  have a0 := byte_and (s.data.toList.getD 0 0) 248
  rw [show (((248 : UInt8).toNat : Nat) : Int) = 248 from rfl] at a0
  have hl1 : (s.data.toList.set 0 (s.data.toList.getD 0 0 &&& 248)).length = 32 := by rw [List.length_set, HSL.out]
  have e31 : (s.data.toList.set 0 (s.data.toList.getD 0 0 &&& 248)).getD 31 0 = s.data.toList.getD 31 0 := by
    rw [List.getD_eq_getElem?_getD, List.getElem?_set_ne (by decide), List.getD_eq_getElem?_getD]
  obtain ⟨c1, f1⟩ := own_byte hown1 31 (by rw [hl1]; decide)
  have hown2 := own_byte_put hown1 31 (by rw [hl1]; decide) (s.data.toList.getD 31 0 &&& 127 ||| 64)
  rw [e31] at c1
  have a1 := byte_and (s.data.toList.getD 31 0) 127
  rw [show (((127 : UInt8).toNat : Nat) : Int) = 127 from rfl] at a1
  have a2 := byte_ior (s.data.toList.getD 31 0 &&& 127) 64
  rw [show (((64 : UInt8).toNat : Nat) : Int) = 64 from rfl] at a2
  have HO2 : Hid (OwnS _ _ _ cap (Lib.byteCells (clampL s.data.toList))) := Lib.hid hown2
  have hb2 := (hbo.setCell (p := ⟨w.heap.size, 0, none⟩) (by simp) (.int .u8 ((s.data.toList.getD 0 0 &&& 248).toNat : Int))).setCell (p := ⟨w.heap.size, 31, none⟩) (by simp) (.int .u8 ((s.data.toList.getD 31 0 &&& 127 ||| 64).toNat : Int))
  clear hown hown1 hown2 hbo hs hp
  generalize (s.data.toList.getD 0 0 &&& 248).toNat = v0 at *
  generalize (s.data.toList.getD 31 0 &&& 127 ||| 64).toNat = v1 at *
  generalize (s.data.toList.getD 31 0 &&& 127).toNat = v2 at *
  generalize (s.data.toList.getD 31 0).toNat = v3 at *
  generalize (s.data.toList.getD 0 0).toNat = v4 at *
  have HKL : Hid ((clampL s.data.toList).length = 32) := Lib.hid (by rw [clampL_length, HSL.out])
  have HSH : Hid (shareF s.data.toList p.data.toList = mulF (ladN (pubF p.data.toList) (clampL s.data.toList) 255).a (invF (ladN (pubF p.data.toList) (clampL s.data.toList) 255).b)) := Lib.hid rfl
  generalize clampL s.data.toList = ks at *
  generalize (p.data.toList.getD 31 0).toNat = v5 at *
  go_enter Tryd.func8, Tryd.ntmps8
  go_wp2_with fail
  clear c0 c1 f0 f1 a0 a1 a2 hcv
  generalize (World.setCell _ _ _) = W0 at *
  refine wp_region_made_two 8 2 154 [.val (.string p) [(1, .string p)], .val (.string (p.extract 0 31)) [(51, .string p)], .val (.string p) [(1, .string p)], .val (.int .u8 (v5 : Int)) [(53, .string p)],
    .val (.int .u8 (mb.toNat : Int)) [(54, .int .u8 (v5 : Int))], .new (.cells (bcells [mb]) 5) (mkS 1 1) [(55, .int .u8 (mb.toNat : Int))], .from (.string ⟨[mb].toArray⟩) [] [(5, 56, .cells (bcells [mb]) 5, mkS 1 1)],
    .val (.string (p.extract 0 31 ++ (⟨[mb].toArray⟩ : ByteArray))) [(52, .string (p.extract 0 31)), (57, .string ⟨[mb].toArray⟩)]]
    (by kernel_rfl) (by kernel_rfl) (by kernel_rfl) rfl ?_ ?_ ?_ ?_
  · simp [madeMk, MadeSpec.val, MadeSpec.from, MadeSpec.new]
  · simp only [List.take_succ_cons, List.take_zero, madeObl, madeSpecObl, MadeSpec.val, MadeSpec.from, MadeSpec.new, and_true]
    refine ⟨?_, ?_, ?_, ?_, ?_, ?_, ?_, ?_⟩
    · intro a w hb h _
      have e := h (1, .string p) (by simp)
      simp only [Array.getD_eq_getD_getElem?] at e
      simp [go_sem, e, sQuiet]
    · intro a w hb h _
      have e := h (51, .string p) (by simp)
      simp only [Array.getD_eq_getD_getElem?] at e
      simp [go_sem, e, sQuiet, hp31]
    · intro a w hb h _
      have e := h (1, .string p) (by simp)
      simp only [Array.getD_eq_getD_getElem?] at e
      simp [go_sem, e, sQuiet]
    · intro a w hb h _
      have e := h (53, .string p) (by simp)
      simp only [Array.getD_eq_getD_getElem?] at e
      simp [go_sem, e, sQuiet, hix]
    · intro a w hb h _
      have e := h (54, .int .u8 (v5 : Int)) (by simp)
      simp only [Array.getD_eq_getD_getElem?] at e
      simp [go_sem, e, sQuiet, am]
    · refine ⟨fun g => rfl, ?_⟩
      intro a w hb h
      have e := h (55, .int .u8 (mb.toNat : Int)) (by simp)
      simp only [Array.getD_eq_getD_getElem?] at e
      simp [go_sem, e, mkS]
      rfl
    · intro a w1 hb h hm
      obtain ⟨g, e1, hgo⟩ := hm _ (List.mem_singleton.2 rfl)
      simp only [Array.getD_eq_getD_getElem?] at e1
      simp [go_sem, e1, sQuiet, mkS, text_row w1 g 1 1 [mb] rfl hgo]
    · intro a w hb h _
      have e0 := h (52, .string (p.extract 0 31)) (by simp)
      have e1 := h (57, .string ⟨[mb].toArray⟩) (by simp)
      simp only [Array.getD_eq_getD_getElem?] at e0 e1
      simp [go_sem, e0, e1, sQuiet, hz]
  · simp [madeReads, headPut, madeV, MadeSpec.val, MadeSpec.from, MadeSpec.new, Act.put]
  · simp only [List.take_succ_cons, List.take_zero, List.drop_succ_cons, List.drop_zero, madeEnd, MadeSpec.val, MadeSpec.from, MadeSpec.new, Act.put, List.setIfInBounds_toArray, List.set_cons_succ, List.set_cons_zero]
    intro g6 hg6 _ W1 hb1 hgs
    simp only [mkS]
    have HO1 := Lib.hid (HO2.out.stays hb1)
    have hb3 := hb2.trans (hb1.mono hb2.size)
    clear hgs hb1 hg6 HO2 hb2
    go_wp2_with fail
    refine (HOF.out W1).mono ?_
    rintro e W2 ⟨⟨du, rfl, hdu⟩, hb4⟩
    have HU2 := Lib.hid hdu
    have HO2 := Lib.hid (HO1.out.stays hb4)
    have hb5 := hb3.trans (hb4.mono hb3.size)
    clear hdu hb4 HOF HO1 hb3
    have HS1 := Lib.hid (smallRefPos_any 1 W2 (by decide))
    go_wp2_with fail
    refine HS1.out.mono ?_
    rintro e W3 ⟨⟨da, rfl, hda⟩, hb6⟩
    have HA3 := Lib.hid hda
    have HU3 := Lib.hid (HU2.out.step hb6)
    have HO3 := Lib.hid (HO2.out.stays hb6)
    have hb7 := hb5.trans (hb6.mono hb5.size)
    clear hda hb6 HS1 HU2 HO2 hb5
    have HS2 := Lib.hid (smallRefPos_any 0 W3 (by decide))
    go_wp2_with fail
    refine HS2.out.mono ?_
    rintro e W4 ⟨⟨db, rfl, hdb⟩, hb8⟩
    have HB4 := Lib.hid hdb
    have HA4 := Lib.hid (HA3.out.step hb8)
    have HU4 := Lib.hid (HU3.out.step hb8)
    have HO4 := Lib.hid (HO3.out.stays hb8)
    have hb9 := hb7.trans (hb8.mono hb7.size)
    clear hdb hb8 HS2 HU3 HO3 HA3 hb7
    have HS3 := Lib.hid (smallRefPos_any 1 W4 (by decide))
    go_wp2_with fail
    refine HS3.out.mono ?_
    rintro e W5 ⟨⟨dd, rfl, hdd⟩, hb10⟩
    have HD5 := Lib.hid hdd
    have HB5 := Lib.hid (HB4.out.step hb10)
    have HA5 := Lib.hid (HA4.out.step hb10)
    have HU5 := Lib.hid (HU4.out.step hb10)
    have HO5 := Lib.hid (HO4.out.stays hb10)
    have hb11 := hb9.trans (hb10.mono hb9.size)
    clear hdd hb10 HS3 HU4 HO4 HA4 HB4 hb9
    go_wp2_with fail
    have hgl : w.heap.size < W5.heap.size := by have := HO5.out.lt (by have := HO5.out.le; rw [Lib.byteCells_length, HKL.out] at this; omega); exact this
    generalize hu : pubF p.data.toList = u at *
    have HUL : Hid (u < pF) := Lib.hid (by rw [← hu]; exact pubF_lt _)
    have HK := Lib.hid (fun W => smallRefPos_any 121665 W (by decide))
    have HOK := Lib.hid (lad_ok u HUL.out ks)
    go_loopw [9, 10, 11, 12, 13] (fun av bv cv dv iv wr => ∃ n : Nat, n ≤ 255 ∧ iv = .int .i64 (254 - (n : Int)) ∧ DigAt wr av (digN (ladN u ks n).a) ∧ DigAt wr bv (digN (ladN u ks n).b) ∧ DigAt wr cv (digN (ladN u ks n).c) ∧ DigAt wr dv (digN (ladN u ks n).d) ∧ Below W5.heap.size W5 wr) (fun _ _ _ _ iv _ => (intOf iv + 1).toNat)
    case atStart => exact ⟨0, by omega, rfl, HA5.out, HB5.out, HU5.out, HD5.out, Below.refl _ _⟩
    case round =>
      clear HA5 HB5 HD5
      obtain ⟨n, hn, rfl, hva, hvb, hvc, hvd, hbL⟩ := hrel
      have HLa := Lib.hid hva; have HLb := Lib.hid hvb; have HLc := Lib.hid hvc; have HLd := Lib.hid hvd
      clear hva hvb hvc hvd
      by_cases hlt : n < 255
      · obtain ⟨i, hi⟩ : ∃ i, i = 254 - n := ⟨_, rfl⟩
        have hii : (254 : Int) - (n : Int) = (i : Int) := by omega
        have hd : decide ((0 : Int) ≤ (i : Int)) = true := by simp
        have hi254 : i < 255 := by omega
        have HST0 : Hid (ladN u ks (n + 1) = rungStep u (bitL ks i) (ladN u ks n)) := Lib.hid (by rw [ladN, hi])
        have hcd := (hbL.cell (p := ⟨w.heap.size, i / 8, none⟩) hgl).trans (own_byte HO5.out (i / 8) (by rw [HKL.out]; omega)).1
        have hbit := lad_bit ks i
        obtain ⟨hla, hlb, hlc, hld⟩ := HOK.out n
        have hkb := (ks.getD (i / 8) 0).toNat_lt
        rw [hii]
        generalize ladN u ks n = q0 at *
        obtain ⟨a, b, c, d⟩ := q0
        dsimp only at HLa HLb HLc HLd hla hlb hlc hld
        generalize (ks.getD (i / 8) 0).toNat = kb at *
        have f1 : ((i : Int) / 8).toNat = i / 8 := by omega
        have f2 : ((i : Int) % 8).toNat = i % 8 := by omega
        have hb01 := bitL_cases ks i
        generalize bitL ks i = bit at *
        clear hi
        rcases hb01 with rfl | rfl
        · have hbit : bits .and .u8 ((kb : Int) / 2 ^ (i % 8)) 1 = 0 := hbit
          obtain ⟨m, l, o, q, r, t1, s, t2, t, x, y, c2, yy, d2, a2, z1, z2, b2, h_m, h_l, h_o, h_q, h_r, h_t1, h_s, h_t2, h_t, h_x, h_y, h_c2, h_yy, h_d2, h_a2, h_z1, h_z2, h_b2, HMid⟩ := rung_parts u a b c d
          have hl_m : m < pF := h_m ▸ addF_lt _ _
          have hl_l : l < pF := h_l ▸ subF_lt _ _
          have hl_o : o < pF := h_o ▸ mulF_lt _ _
          have hl_q : q < pF := h_q ▸ mulF_lt _ _
          have hl_r : r < pF := h_r ▸ subF_lt _ _
          have hl_t1 : t1 < pF := h_t1 ▸ subF_lt _ _
          have hl_s : s < pF := h_s ▸ mulF_lt _ _
          have hl_t2 : t2 < pF := h_t2 ▸ addF_lt _ _
          have hl_t : t < pF := h_t ▸ mulF_lt _ _
          have hl_x : x < pF := h_x ▸ addF_lt _ _
          have hl_y : y < pF := h_y ▸ subF_lt _ _
          have hl_c2 : c2 < pF := h_c2 ▸ mulF_lt _ _
          have hl_yy : yy < pF := h_yy ▸ mulF_lt _ _
          have hl_d2 : d2 < pF := h_d2 ▸ mulF_lt _ _
          have hl_a2 : a2 < pF := h_a2 ▸ mulF_lt _ _
          have hl_z1 : z1 < pF := h_z1 ▸ mulF_lt _ _
          have hl_z2 : z2 < pF := h_z2 ▸ addF_lt _ _
          have hl_b2 : b2 < pF := h_b2 ▸ mulF_lt _ _
          have C_m := Lib.hid (fun (W : World) (x1 x2 : Value) (h1 : DigAt W x1 (digN a)) (h2 : DigAt W x2 (digN b)) => addRef_any x1 x2 a b W hla hlb h1 h2)
          rw [h_m] at C_m
          have C_l := Lib.hid (fun (W : World) (x1 x2 : Value) (h1 : DigAt W x1 (digN a)) (h2 : DigAt W x2 (digN b)) => subRef_any x1 x2 a b W hla hlb h1 h2)
          rw [h_l] at C_l
          have C_o := Lib.hid (fun (W : World) (x1 x2 : Value) (h1 : DigAt W x1 (digN m)) (h2 : DigAt W x2 (digN m)) => mulRef_any x1 x2 m m W hl_m hl_m h1 h2)
          rw [h_o] at C_o
          have C_q := Lib.hid (fun (W : World) (x1 x2 : Value) (h1 : DigAt W x1 (digN l)) (h2 : DigAt W x2 (digN l)) => mulRef_any x1 x2 l l W hl_l hl_l h1 h2)
          rw [h_q] at C_q
          have C_r := Lib.hid (fun (W : World) (x1 x2 : Value) (h1 : DigAt W x1 (digN o)) (h2 : DigAt W x2 (digN q)) => subRef_any x1 x2 o q W hl_o hl_q h1 h2)
          rw [h_r] at C_r
          have C_t1 := Lib.hid (fun (W : World) (x1 x2 : Value) (h1 : DigAt W x1 (digN c)) (h2 : DigAt W x2 (digN d)) => subRef_any x1 x2 c d W hlc hld h1 h2)
          rw [h_t1] at C_t1
          have C_s := Lib.hid (fun (W : World) (x1 x2 : Value) (h1 : DigAt W x1 (digN t1)) (h2 : DigAt W x2 (digN m)) => mulRef_any x1 x2 t1 m W hl_t1 hl_m h1 h2)
          rw [h_s] at C_s
          have C_t2 := Lib.hid (fun (W : World) (x1 x2 : Value) (h1 : DigAt W x1 (digN c)) (h2 : DigAt W x2 (digN d)) => addRef_any x1 x2 c d W hlc hld h1 h2)
          rw [h_t2] at C_t2
          have C_t := Lib.hid (fun (W : World) (x1 x2 : Value) (h1 : DigAt W x1 (digN t2)) (h2 : DigAt W x2 (digN l)) => mulRef_any x1 x2 t2 l W hl_t2 hl_l h1 h2)
          rw [h_t] at C_t
          have C_x := Lib.hid (fun (W : World) (x1 x2 : Value) (h1 : DigAt W x1 (digN t)) (h2 : DigAt W x2 (digN s)) => addRef_any x1 x2 t s W hl_t hl_s h1 h2)
          rw [h_x] at C_x
          have C_y := Lib.hid (fun (W : World) (x1 x2 : Value) (h1 : DigAt W x1 (digN t)) (h2 : DigAt W x2 (digN s)) => subRef_any x1 x2 t s W hl_t hl_s h1 h2)
          rw [h_y] at C_y
          have C_c2 := Lib.hid (fun (W : World) (x1 x2 : Value) (h1 : DigAt W x1 (digN x)) (h2 : DigAt W x2 (digN x)) => mulRef_any x1 x2 x x W hl_x hl_x h1 h2)
          rw [h_c2] at C_c2
          have C_yy := Lib.hid (fun (W : World) (x1 x2 : Value) (h1 : DigAt W x1 (digN y)) (h2 : DigAt W x2 (digN y)) => mulRef_any x1 x2 y y W hl_y hl_y h1 h2)
          rw [h_yy] at C_yy
          have C_d2 := Lib.hid (fun (W : World) (x1 x2 : Value) (h1 : DigAt W x1 (digN u)) (h2 : DigAt W x2 (digN yy)) => mulRef_any x1 x2 u yy W HUL.out hl_yy h1 h2)
          rw [h_d2] at C_d2
          have C_a2 := Lib.hid (fun (W : World) (x1 x2 : Value) (h1 : DigAt W x1 (digN o)) (h2 : DigAt W x2 (digN q)) => mulRef_any x1 x2 o q W hl_o hl_q h1 h2)
          rw [h_a2] at C_a2
          have C_z1 := Lib.hid (fun (W : World) (x1 x2 : Value) (h1 : DigAt W x1 (digN 121665)) (h2 : DigAt W x2 (digN r)) => mulRef_any x1 x2 121665 r W (by decide) hl_r h1 h2)
          rw [h_z1] at C_z1
          have C_z2 := Lib.hid (fun (W : World) (x1 x2 : Value) (h1 : DigAt W x1 (digN o)) (h2 : DigAt W x2 (digN z1)) => addRef_any x1 x2 o z1 W hl_o hl_z1 h1 h2)
          rw [h_z2] at C_z2
          have C_b2 := Lib.hid (fun (W : World) (x1 x2 : Value) (h1 : DigAt W x1 (digN r)) (h2 : DigAt W x2 (digN z2)) => mulRef_any x1 x2 r z2 W hl_r hl_z2 h1 h2)
          rw [h_b2] at C_b2
          clear h_m hl_m h_l hl_l h_o hl_o h_q hl_q h_r hl_r h_t1 hl_t1 h_s hl_s h_t2 hl_t2 h_t hl_t h_x hl_x h_y hl_y h_c2 hl_c2 h_yy hl_yy h_d2 hl_d2 h_a2 hl_a2 h_z1 hl_z1 h_z2 hl_z2 h_b2 hl_b2
          have HST : Hid (ladN u ks (n + 1) = ⟨a2, b2, c2, d2⟩) := Lib.hid (HST0.out.trans (show rungStep u 0 ⟨a, b, c, d⟩ = _ from congrArg (Rung.turn 0) HMid))
          clear HMid HST0 hla hlb hlc hld
          go_wp2_with fail
          refine (C_m.out wr _ _ HLa.out HLb.out).mono ?_
          rintro e V0 ⟨⟨w_m, rfl, hd⟩, hb⟩
          have HA0 := Lib.hid (HLa.out.step hb)
          have HB0 := Lib.hid (HLb.out.step hb)
          have HC0 := Lib.hid (HLc.out.step hb)
          have HD0 := Lib.hid (HLd.out.step hb)
          have Hm0 := Lib.hid hd
          have hbL0 := hbL.trans (hb.mono hbL.size)
          clear hd hb HLa HLb HLc HLd C_m hbL
          go_wp2_with fail
          refine (C_l.out V0 _ _ HA0.out HB0.out).mono ?_
          rintro e V1 ⟨⟨w_l, rfl, hd⟩, hb⟩
          have HC1 := Lib.hid (HC0.out.step hb)
          have HD1 := Lib.hid (HD0.out.step hb)
          have Hm1 := Lib.hid (Hm0.out.step hb)
          have Hl1 := Lib.hid hd
          have hbL1 := hbL0.trans (hb.mono hbL0.size)
          clear hd hb HA0 HB0 HC0 HD0 Hm0 C_l hbL0
          go_wp2_with fail
          refine (C_o.out V1 _ _ Hm1.out Hm1.out).mono ?_
          rintro e V2 ⟨⟨w_o, rfl, hd⟩, hb⟩
          have HC2 := Lib.hid (HC1.out.step hb)
          have HD2 := Lib.hid (HD1.out.step hb)
          have Hm2 := Lib.hid (Hm1.out.step hb)
          have Hl2 := Lib.hid (Hl1.out.step hb)
          have Ho2 := Lib.hid hd
          have hbL2 := hbL1.trans (hb.mono hbL1.size)
          clear hd hb HC1 HD1 Hm1 Hl1 C_o hbL1
          go_wp2_with fail
          refine (C_q.out V2 _ _ Hl2.out Hl2.out).mono ?_
          rintro e V3 ⟨⟨w_q, rfl, hd⟩, hb⟩
          have HC3 := Lib.hid (HC2.out.step hb)
          have HD3 := Lib.hid (HD2.out.step hb)
          have Hm3 := Lib.hid (Hm2.out.step hb)
          have Hl3 := Lib.hid (Hl2.out.step hb)
          have Ho3 := Lib.hid (Ho2.out.step hb)
          have Hq3 := Lib.hid hd
          have hbL3 := hbL2.trans (hb.mono hbL2.size)
          clear hd hb HC2 HD2 Hm2 Hl2 Ho2 C_q hbL2
          go_wp2_with fail
          refine (C_r.out V3 _ _ Ho3.out Hq3.out).mono ?_
          rintro e V4 ⟨⟨w_r, rfl, hd⟩, hb⟩
          have HC4 := Lib.hid (HC3.out.step hb)
          have HD4 := Lib.hid (HD3.out.step hb)
          have Hm4 := Lib.hid (Hm3.out.step hb)
          have Hl4 := Lib.hid (Hl3.out.step hb)
          have Ho4 := Lib.hid (Ho3.out.step hb)
          have Hq4 := Lib.hid (Hq3.out.step hb)
          have Hr4 := Lib.hid hd
          have hbL4 := hbL3.trans (hb.mono hbL3.size)
          clear hd hb HC3 HD3 Hm3 Hl3 Ho3 Hq3 C_r hbL3
          go_wp2_with fail
          refine (C_t1.out V4 _ _ HC4.out HD4.out).mono ?_
          rintro e V5 ⟨⟨w_t1, rfl, hd⟩, hb⟩
          have HC5 := Lib.hid (HC4.out.step hb)
          have HD5 := Lib.hid (HD4.out.step hb)
          have Hm5 := Lib.hid (Hm4.out.step hb)
          have Hl5 := Lib.hid (Hl4.out.step hb)
          have Ho5 := Lib.hid (Ho4.out.step hb)
          have Hq5 := Lib.hid (Hq4.out.step hb)
          have Hr5 := Lib.hid (Hr4.out.step hb)
          have Ht15 := Lib.hid hd
          have hbL5 := hbL4.trans (hb.mono hbL4.size)
          clear hd hb HC4 HD4 Hm4 Hl4 Ho4 Hq4 Hr4 C_t1 hbL4
          go_wp2_with fail
          refine (C_s.out V5 _ _ Ht15.out Hm5.out).mono ?_
          rintro e V6 ⟨⟨w_s, rfl, hd⟩, hb⟩
          have HC6 := Lib.hid (HC5.out.step hb)
          have HD6 := Lib.hid (HD5.out.step hb)
          have Hl6 := Lib.hid (Hl5.out.step hb)
          have Ho6 := Lib.hid (Ho5.out.step hb)
          have Hq6 := Lib.hid (Hq5.out.step hb)
          have Hr6 := Lib.hid (Hr5.out.step hb)
          have Hs6 := Lib.hid hd
          have hbL6 := hbL5.trans (hb.mono hbL5.size)
          clear hd hb HC5 HD5 Hm5 Hl5 Ho5 Hq5 Hr5 Ht15 C_s hbL5
          go_wp2_with fail
          refine (C_t2.out V6 _ _ HC6.out HD6.out).mono ?_
          rintro e V7 ⟨⟨w_t2, rfl, hd⟩, hb⟩
          have Hl7 := Lib.hid (Hl6.out.step hb)
          have Ho7 := Lib.hid (Ho6.out.step hb)
          have Hq7 := Lib.hid (Hq6.out.step hb)
          have Hr7 := Lib.hid (Hr6.out.step hb)
          have Hs7 := Lib.hid (Hs6.out.step hb)
          have Ht27 := Lib.hid hd
          have hbL7 := hbL6.trans (hb.mono hbL6.size)
          clear hd hb HC6 HD6 Hl6 Ho6 Hq6 Hr6 Hs6 C_t2 hbL6
          go_wp2_with fail
          refine (C_t.out V7 _ _ Ht27.out Hl7.out).mono ?_
          rintro e V8 ⟨⟨w_t, rfl, hd⟩, hb⟩
          have Ho8 := Lib.hid (Ho7.out.step hb)
          have Hq8 := Lib.hid (Hq7.out.step hb)
          have Hr8 := Lib.hid (Hr7.out.step hb)
          have Hs8 := Lib.hid (Hs7.out.step hb)
          have Ht8 := Lib.hid hd
          have hbL8 := hbL7.trans (hb.mono hbL7.size)
          clear hd hb Hl7 Ho7 Hq7 Hr7 Hs7 Ht27 C_t hbL7
          go_wp2_with fail
          refine (C_x.out V8 _ _ Ht8.out Hs8.out).mono ?_
          rintro e V9 ⟨⟨w_x, rfl, hd⟩, hb⟩
          have Ho9 := Lib.hid (Ho8.out.step hb)
          have Hq9 := Lib.hid (Hq8.out.step hb)
          have Hr9 := Lib.hid (Hr8.out.step hb)
          have Hs9 := Lib.hid (Hs8.out.step hb)
          have Ht9 := Lib.hid (Ht8.out.step hb)
          have Hx9 := Lib.hid hd
          have hbL9 := hbL8.trans (hb.mono hbL8.size)
          clear hd hb Ho8 Hq8 Hr8 Hs8 Ht8 C_x hbL8
          go_wp2_with fail
          refine (C_y.out V9 _ _ Ht9.out Hs9.out).mono ?_
          rintro e V10 ⟨⟨w_y, rfl, hd⟩, hb⟩
          have Ho10 := Lib.hid (Ho9.out.step hb)
          have Hq10 := Lib.hid (Hq9.out.step hb)
          have Hr10 := Lib.hid (Hr9.out.step hb)
          have Hx10 := Lib.hid (Hx9.out.step hb)
          have Hy10 := Lib.hid hd
          have hbL10 := hbL9.trans (hb.mono hbL9.size)
          clear hd hb Ho9 Hq9 Hr9 Hs9 Ht9 Hx9 C_y hbL9
          go_wp2_with fail
          refine (C_c2.out V10 _ _ Hx10.out Hx10.out).mono ?_
          rintro e V11 ⟨⟨w_c2, rfl, hd⟩, hb⟩
          have Ho11 := Lib.hid (Ho10.out.step hb)
          have Hq11 := Lib.hid (Hq10.out.step hb)
          have Hr11 := Lib.hid (Hr10.out.step hb)
          have Hy11 := Lib.hid (Hy10.out.step hb)
          have Hc211 := Lib.hid hd
          have hbL11 := hbL10.trans (hb.mono hbL10.size)
          clear hd hb Ho10 Hq10 Hr10 Hx10 Hy10 C_c2 hbL10
          go_wp2_with fail
          refine (C_yy.out V11 _ _ Hy11.out Hy11.out).mono ?_
          rintro e V12 ⟨⟨w_yy, rfl, hd⟩, hb⟩
          have Ho12 := Lib.hid (Ho11.out.step hb)
          have Hq12 := Lib.hid (Hq11.out.step hb)
          have Hr12 := Lib.hid (Hr11.out.step hb)
          have Hc212 := Lib.hid (Hc211.out.step hb)
          have Hyy12 := Lib.hid hd
          have hbL12 := hbL11.trans (hb.mono hbL11.size)
          clear hd hb Ho11 Hq11 Hr11 Hy11 Hc211 C_yy hbL11
          go_wp2_with fail
          refine (C_d2.out V12 _ _ (HU5.out.step hbL12) Hyy12.out).mono ?_
          rintro e V13 ⟨⟨w_d2, rfl, hd⟩, hb⟩
          have Ho13 := Lib.hid (Ho12.out.step hb)
          have Hq13 := Lib.hid (Hq12.out.step hb)
          have Hr13 := Lib.hid (Hr12.out.step hb)
          have Hc213 := Lib.hid (Hc212.out.step hb)
          have Hd213 := Lib.hid hd
          have hbL13 := hbL12.trans (hb.mono hbL12.size)
          clear hd hb Ho12 Hq12 Hr12 Hc212 Hyy12 C_d2 hbL12
          go_wp2_with fail
          refine (C_a2.out V13 _ _ Ho13.out Hq13.out).mono ?_
          rintro e V14 ⟨⟨w_a2, rfl, hd⟩, hb⟩
          have Ho14 := Lib.hid (Ho13.out.step hb)
          have Hr14 := Lib.hid (Hr13.out.step hb)
          have Hc214 := Lib.hid (Hc213.out.step hb)
          have Hd214 := Lib.hid (Hd213.out.step hb)
          have Ha214 := Lib.hid hd
          have hbL14 := hbL13.trans (hb.mono hbL13.size)
          clear hd hb Ho13 Hq13 Hr13 Hc213 Hd213 C_a2 hbL13
          go_wp2_with fail
          refine (HK.out V14).mono ?_
          rintro e V15 ⟨⟨w_k, rfl, hd⟩, hb⟩
          have Ho15 := Lib.hid (Ho14.out.step hb)
          have Hr15 := Lib.hid (Hr14.out.step hb)
          have Hc215 := Lib.hid (Hc214.out.step hb)
          have Hd215 := Lib.hid (Hd214.out.step hb)
          have Ha215 := Lib.hid (Ha214.out.step hb)
          have Hk15 := Lib.hid hd
          have hbL15 := hbL14.trans (hb.mono hbL14.size)
          clear hd hb Ho14 Hr14 Hc214 Hd214 Ha214 hbL14
          go_wp2_with fail
          refine (C_z1.out V15 _ _ Hk15.out Hr15.out).mono ?_
          rintro e V16 ⟨⟨w_z1, rfl, hd⟩, hb⟩
          have Ho16 := Lib.hid (Ho15.out.step hb)
          have Hr16 := Lib.hid (Hr15.out.step hb)
          have Hc216 := Lib.hid (Hc215.out.step hb)
          have Hd216 := Lib.hid (Hd215.out.step hb)
          have Ha216 := Lib.hid (Ha215.out.step hb)
          have Hz116 := Lib.hid hd
          have hbL16 := hbL15.trans (hb.mono hbL15.size)
          clear hd hb Ho15 Hr15 Hc215 Hd215 Ha215 Hk15 C_z1 hbL15
          go_wp2_with fail
          refine (C_z2.out V16 _ _ Ho16.out Hz116.out).mono ?_
          rintro e V17 ⟨⟨w_z2, rfl, hd⟩, hb⟩
          have Hr17 := Lib.hid (Hr16.out.step hb)
          have Hc217 := Lib.hid (Hc216.out.step hb)
          have Hd217 := Lib.hid (Hd216.out.step hb)
          have Ha217 := Lib.hid (Ha216.out.step hb)
          have Hz217 := Lib.hid hd
          have hbL17 := hbL16.trans (hb.mono hbL16.size)
          clear hd hb Ho16 Hr16 Hc216 Hd216 Ha216 Hz116 C_z2 hbL16
          go_wp2_with fail
          refine (C_b2.out V17 _ _ Hr17.out Hz217.out).mono ?_
          rintro e V18 ⟨⟨w_b2, rfl, hd⟩, hb⟩
          have Hc218 := Lib.hid (Hc217.out.step hb)
          have Hd218 := Lib.hid (Hd217.out.step hb)
          have Ha218 := Lib.hid (Ha217.out.step hb)
          have Hb218 := Lib.hid hd
          have hbL18 := hbL17.trans (hb.mono hbL17.size)
          clear hd hb Hr17 Hc217 Hd217 Ha217 Hz217 C_b2 hbL17
          go_wp2_with fail
          go_roundw
          case rel => exact ⟨n + 1, by omega, by congr 1; omega, by rw [HST.out]; exact Ha218.out, by rw [HST.out]; exact Hb218.out, by rw [HST.out]; exact Hc218.out, by rw [HST.out]; exact Hd218.out, hbL18⟩
          case measure => simp [intOf] <;> omega
        · have hbit : bits .and .u8 ((kb : Int) / 2 ^ (i % 8)) 1 = 1 := hbit
          obtain ⟨m, l, o, q, r, t1, s, t2, t, x, y, c2, yy, d2, a2, z1, z2, b2, h_m, h_l, h_o, h_q, h_r, h_t1, h_s, h_t2, h_t, h_x, h_y, h_c2, h_yy, h_d2, h_a2, h_z1, h_z2, h_b2, HMid⟩ := rung_parts u c d a b
          have hl_m : m < pF := h_m ▸ addF_lt _ _
          have hl_l : l < pF := h_l ▸ subF_lt _ _
          have hl_o : o < pF := h_o ▸ mulF_lt _ _
          have hl_q : q < pF := h_q ▸ mulF_lt _ _
          have hl_r : r < pF := h_r ▸ subF_lt _ _
          have hl_t1 : t1 < pF := h_t1 ▸ subF_lt _ _
          have hl_s : s < pF := h_s ▸ mulF_lt _ _
          have hl_t2 : t2 < pF := h_t2 ▸ addF_lt _ _
          have hl_t : t < pF := h_t ▸ mulF_lt _ _
          have hl_x : x < pF := h_x ▸ addF_lt _ _
          have hl_y : y < pF := h_y ▸ subF_lt _ _
          have hl_c2 : c2 < pF := h_c2 ▸ mulF_lt _ _
          have hl_yy : yy < pF := h_yy ▸ mulF_lt _ _
          have hl_d2 : d2 < pF := h_d2 ▸ mulF_lt _ _
          have hl_a2 : a2 < pF := h_a2 ▸ mulF_lt _ _
          have hl_z1 : z1 < pF := h_z1 ▸ mulF_lt _ _
          have hl_z2 : z2 < pF := h_z2 ▸ addF_lt _ _
          have hl_b2 : b2 < pF := h_b2 ▸ mulF_lt _ _
          have C_m := Lib.hid (fun (W : World) (x1 x2 : Value) (h1 : DigAt W x1 (digN c)) (h2 : DigAt W x2 (digN d)) => addRef_any x1 x2 c d W hlc hld h1 h2)
          rw [h_m] at C_m
          have C_l := Lib.hid (fun (W : World) (x1 x2 : Value) (h1 : DigAt W x1 (digN c)) (h2 : DigAt W x2 (digN d)) => subRef_any x1 x2 c d W hlc hld h1 h2)
          rw [h_l] at C_l
          have C_o := Lib.hid (fun (W : World) (x1 x2 : Value) (h1 : DigAt W x1 (digN m)) (h2 : DigAt W x2 (digN m)) => mulRef_any x1 x2 m m W hl_m hl_m h1 h2)
          rw [h_o] at C_o
          have C_q := Lib.hid (fun (W : World) (x1 x2 : Value) (h1 : DigAt W x1 (digN l)) (h2 : DigAt W x2 (digN l)) => mulRef_any x1 x2 l l W hl_l hl_l h1 h2)
          rw [h_q] at C_q
          have C_r := Lib.hid (fun (W : World) (x1 x2 : Value) (h1 : DigAt W x1 (digN o)) (h2 : DigAt W x2 (digN q)) => subRef_any x1 x2 o q W hl_o hl_q h1 h2)
          rw [h_r] at C_r
          have C_t1 := Lib.hid (fun (W : World) (x1 x2 : Value) (h1 : DigAt W x1 (digN a)) (h2 : DigAt W x2 (digN b)) => subRef_any x1 x2 a b W hla hlb h1 h2)
          rw [h_t1] at C_t1
          have C_s := Lib.hid (fun (W : World) (x1 x2 : Value) (h1 : DigAt W x1 (digN t1)) (h2 : DigAt W x2 (digN m)) => mulRef_any x1 x2 t1 m W hl_t1 hl_m h1 h2)
          rw [h_s] at C_s
          have C_t2 := Lib.hid (fun (W : World) (x1 x2 : Value) (h1 : DigAt W x1 (digN a)) (h2 : DigAt W x2 (digN b)) => addRef_any x1 x2 a b W hla hlb h1 h2)
          rw [h_t2] at C_t2
          have C_t := Lib.hid (fun (W : World) (x1 x2 : Value) (h1 : DigAt W x1 (digN t2)) (h2 : DigAt W x2 (digN l)) => mulRef_any x1 x2 t2 l W hl_t2 hl_l h1 h2)
          rw [h_t] at C_t
          have C_x := Lib.hid (fun (W : World) (x1 x2 : Value) (h1 : DigAt W x1 (digN t)) (h2 : DigAt W x2 (digN s)) => addRef_any x1 x2 t s W hl_t hl_s h1 h2)
          rw [h_x] at C_x
          have C_y := Lib.hid (fun (W : World) (x1 x2 : Value) (h1 : DigAt W x1 (digN t)) (h2 : DigAt W x2 (digN s)) => subRef_any x1 x2 t s W hl_t hl_s h1 h2)
          rw [h_y] at C_y
          have C_c2 := Lib.hid (fun (W : World) (x1 x2 : Value) (h1 : DigAt W x1 (digN x)) (h2 : DigAt W x2 (digN x)) => mulRef_any x1 x2 x x W hl_x hl_x h1 h2)
          rw [h_c2] at C_c2
          have C_yy := Lib.hid (fun (W : World) (x1 x2 : Value) (h1 : DigAt W x1 (digN y)) (h2 : DigAt W x2 (digN y)) => mulRef_any x1 x2 y y W hl_y hl_y h1 h2)
          rw [h_yy] at C_yy
          have C_d2 := Lib.hid (fun (W : World) (x1 x2 : Value) (h1 : DigAt W x1 (digN u)) (h2 : DigAt W x2 (digN yy)) => mulRef_any x1 x2 u yy W HUL.out hl_yy h1 h2)
          rw [h_d2] at C_d2
          have C_a2 := Lib.hid (fun (W : World) (x1 x2 : Value) (h1 : DigAt W x1 (digN o)) (h2 : DigAt W x2 (digN q)) => mulRef_any x1 x2 o q W hl_o hl_q h1 h2)
          rw [h_a2] at C_a2
          have C_z1 := Lib.hid (fun (W : World) (x1 x2 : Value) (h1 : DigAt W x1 (digN 121665)) (h2 : DigAt W x2 (digN r)) => mulRef_any x1 x2 121665 r W (by decide) hl_r h1 h2)
          rw [h_z1] at C_z1
          have C_z2 := Lib.hid (fun (W : World) (x1 x2 : Value) (h1 : DigAt W x1 (digN o)) (h2 : DigAt W x2 (digN z1)) => addRef_any x1 x2 o z1 W hl_o hl_z1 h1 h2)
          rw [h_z2] at C_z2
          have C_b2 := Lib.hid (fun (W : World) (x1 x2 : Value) (h1 : DigAt W x1 (digN r)) (h2 : DigAt W x2 (digN z2)) => mulRef_any x1 x2 r z2 W hl_r hl_z2 h1 h2)
          rw [h_b2] at C_b2
          clear h_m hl_m h_l hl_l h_o hl_o h_q hl_q h_r hl_r h_t1 hl_t1 h_s hl_s h_t2 hl_t2 h_t hl_t h_x hl_x h_y hl_y h_c2 hl_c2 h_yy hl_yy h_d2 hl_d2 h_a2 hl_a2 h_z1 hl_z1 h_z2 hl_z2 h_b2 hl_b2
          have HST : Hid (ladN u ks (n + 1) = ⟨c2, d2, a2, b2⟩) := Lib.hid (HST0.out.trans (show rungStep u 1 ⟨a, b, c, d⟩ = _ from congrArg (Rung.turn 1) HMid))
          clear HMid HST0 hla hlb hlc hld
          go_wp2_with fail
          refine (C_m.out wr _ _ HLc.out HLd.out).mono ?_
          rintro e V0 ⟨⟨w_m, rfl, hd⟩, hb⟩
          have HA0 := Lib.hid (HLc.out.step hb)
          have HB0 := Lib.hid (HLd.out.step hb)
          have HC0 := Lib.hid (HLa.out.step hb)
          have HD0 := Lib.hid (HLb.out.step hb)
          have Hm0 := Lib.hid hd
          have hbL0 := hbL.trans (hb.mono hbL.size)
          clear hd hb HLc HLd HLa HLb C_m hbL
          go_wp2_with fail
          refine (C_l.out V0 _ _ HA0.out HB0.out).mono ?_
          rintro e V1 ⟨⟨w_l, rfl, hd⟩, hb⟩
          have HC1 := Lib.hid (HC0.out.step hb)
          have HD1 := Lib.hid (HD0.out.step hb)
          have Hm1 := Lib.hid (Hm0.out.step hb)
          have Hl1 := Lib.hid hd
          have hbL1 := hbL0.trans (hb.mono hbL0.size)
          clear hd hb HA0 HB0 HC0 HD0 Hm0 C_l hbL0
          go_wp2_with fail
          refine (C_o.out V1 _ _ Hm1.out Hm1.out).mono ?_
          rintro e V2 ⟨⟨w_o, rfl, hd⟩, hb⟩
          have HC2 := Lib.hid (HC1.out.step hb)
          have HD2 := Lib.hid (HD1.out.step hb)
          have Hm2 := Lib.hid (Hm1.out.step hb)
          have Hl2 := Lib.hid (Hl1.out.step hb)
          have Ho2 := Lib.hid hd
          have hbL2 := hbL1.trans (hb.mono hbL1.size)
          clear hd hb HC1 HD1 Hm1 Hl1 C_o hbL1
          go_wp2_with fail
          refine (C_q.out V2 _ _ Hl2.out Hl2.out).mono ?_
          rintro e V3 ⟨⟨w_q, rfl, hd⟩, hb⟩
          have HC3 := Lib.hid (HC2.out.step hb)
          have HD3 := Lib.hid (HD2.out.step hb)
          have Hm3 := Lib.hid (Hm2.out.step hb)
          have Hl3 := Lib.hid (Hl2.out.step hb)
          have Ho3 := Lib.hid (Ho2.out.step hb)
          have Hq3 := Lib.hid hd
          have hbL3 := hbL2.trans (hb.mono hbL2.size)
          clear hd hb HC2 HD2 Hm2 Hl2 Ho2 C_q hbL2
          go_wp2_with fail
          refine (C_r.out V3 _ _ Ho3.out Hq3.out).mono ?_
          rintro e V4 ⟨⟨w_r, rfl, hd⟩, hb⟩
          have HC4 := Lib.hid (HC3.out.step hb)
          have HD4 := Lib.hid (HD3.out.step hb)
          have Hm4 := Lib.hid (Hm3.out.step hb)
          have Hl4 := Lib.hid (Hl3.out.step hb)
          have Ho4 := Lib.hid (Ho3.out.step hb)
          have Hq4 := Lib.hid (Hq3.out.step hb)
          have Hr4 := Lib.hid hd
          have hbL4 := hbL3.trans (hb.mono hbL3.size)
          clear hd hb HC3 HD3 Hm3 Hl3 Ho3 Hq3 C_r hbL3
          go_wp2_with fail
          refine (C_t1.out V4 _ _ HC4.out HD4.out).mono ?_
          rintro e V5 ⟨⟨w_t1, rfl, hd⟩, hb⟩
          have HC5 := Lib.hid (HC4.out.step hb)
          have HD5 := Lib.hid (HD4.out.step hb)
          have Hm5 := Lib.hid (Hm4.out.step hb)
          have Hl5 := Lib.hid (Hl4.out.step hb)
          have Ho5 := Lib.hid (Ho4.out.step hb)
          have Hq5 := Lib.hid (Hq4.out.step hb)
          have Hr5 := Lib.hid (Hr4.out.step hb)
          have Ht15 := Lib.hid hd
          have hbL5 := hbL4.trans (hb.mono hbL4.size)
          clear hd hb HC4 HD4 Hm4 Hl4 Ho4 Hq4 Hr4 C_t1 hbL4
          go_wp2_with fail
          refine (C_s.out V5 _ _ Ht15.out Hm5.out).mono ?_
          rintro e V6 ⟨⟨w_s, rfl, hd⟩, hb⟩
          have HC6 := Lib.hid (HC5.out.step hb)
          have HD6 := Lib.hid (HD5.out.step hb)
          have Hl6 := Lib.hid (Hl5.out.step hb)
          have Ho6 := Lib.hid (Ho5.out.step hb)
          have Hq6 := Lib.hid (Hq5.out.step hb)
          have Hr6 := Lib.hid (Hr5.out.step hb)
          have Hs6 := Lib.hid hd
          have hbL6 := hbL5.trans (hb.mono hbL5.size)
          clear hd hb HC5 HD5 Hm5 Hl5 Ho5 Hq5 Hr5 Ht15 C_s hbL5
          go_wp2_with fail
          refine (C_t2.out V6 _ _ HC6.out HD6.out).mono ?_
          rintro e V7 ⟨⟨w_t2, rfl, hd⟩, hb⟩
          have Hl7 := Lib.hid (Hl6.out.step hb)
          have Ho7 := Lib.hid (Ho6.out.step hb)
          have Hq7 := Lib.hid (Hq6.out.step hb)
          have Hr7 := Lib.hid (Hr6.out.step hb)
          have Hs7 := Lib.hid (Hs6.out.step hb)
          have Ht27 := Lib.hid hd
          have hbL7 := hbL6.trans (hb.mono hbL6.size)
          clear hd hb HC6 HD6 Hl6 Ho6 Hq6 Hr6 Hs6 C_t2 hbL6
          go_wp2_with fail
          refine (C_t.out V7 _ _ Ht27.out Hl7.out).mono ?_
          rintro e V8 ⟨⟨w_t, rfl, hd⟩, hb⟩
          have Ho8 := Lib.hid (Ho7.out.step hb)
          have Hq8 := Lib.hid (Hq7.out.step hb)
          have Hr8 := Lib.hid (Hr7.out.step hb)
          have Hs8 := Lib.hid (Hs7.out.step hb)
          have Ht8 := Lib.hid hd
          have hbL8 := hbL7.trans (hb.mono hbL7.size)
          clear hd hb Hl7 Ho7 Hq7 Hr7 Hs7 Ht27 C_t hbL7
          go_wp2_with fail
          refine (C_x.out V8 _ _ Ht8.out Hs8.out).mono ?_
          rintro e V9 ⟨⟨w_x, rfl, hd⟩, hb⟩
          have Ho9 := Lib.hid (Ho8.out.step hb)
          have Hq9 := Lib.hid (Hq8.out.step hb)
          have Hr9 := Lib.hid (Hr8.out.step hb)
          have Hs9 := Lib.hid (Hs8.out.step hb)
          have Ht9 := Lib.hid (Ht8.out.step hb)
          have Hx9 := Lib.hid hd
          have hbL9 := hbL8.trans (hb.mono hbL8.size)
          clear hd hb Ho8 Hq8 Hr8 Hs8 Ht8 C_x hbL8
          go_wp2_with fail
          refine (C_y.out V9 _ _ Ht9.out Hs9.out).mono ?_
          rintro e V10 ⟨⟨w_y, rfl, hd⟩, hb⟩
          have Ho10 := Lib.hid (Ho9.out.step hb)
          have Hq10 := Lib.hid (Hq9.out.step hb)
          have Hr10 := Lib.hid (Hr9.out.step hb)
          have Hx10 := Lib.hid (Hx9.out.step hb)
          have Hy10 := Lib.hid hd
          have hbL10 := hbL9.trans (hb.mono hbL9.size)
          clear hd hb Ho9 Hq9 Hr9 Hs9 Ht9 Hx9 C_y hbL9
          go_wp2_with fail
          refine (C_c2.out V10 _ _ Hx10.out Hx10.out).mono ?_
          rintro e V11 ⟨⟨w_c2, rfl, hd⟩, hb⟩
          have Ho11 := Lib.hid (Ho10.out.step hb)
          have Hq11 := Lib.hid (Hq10.out.step hb)
          have Hr11 := Lib.hid (Hr10.out.step hb)
          have Hy11 := Lib.hid (Hy10.out.step hb)
          have Hc211 := Lib.hid hd
          have hbL11 := hbL10.trans (hb.mono hbL10.size)
          clear hd hb Ho10 Hq10 Hr10 Hx10 Hy10 C_c2 hbL10
          go_wp2_with fail
          refine (C_yy.out V11 _ _ Hy11.out Hy11.out).mono ?_
          rintro e V12 ⟨⟨w_yy, rfl, hd⟩, hb⟩
          have Ho12 := Lib.hid (Ho11.out.step hb)
          have Hq12 := Lib.hid (Hq11.out.step hb)
          have Hr12 := Lib.hid (Hr11.out.step hb)
          have Hc212 := Lib.hid (Hc211.out.step hb)
          have Hyy12 := Lib.hid hd
          have hbL12 := hbL11.trans (hb.mono hbL11.size)
          clear hd hb Ho11 Hq11 Hr11 Hy11 Hc211 C_yy hbL11
          go_wp2_with fail
          refine (C_d2.out V12 _ _ (HU5.out.step hbL12) Hyy12.out).mono ?_
          rintro e V13 ⟨⟨w_d2, rfl, hd⟩, hb⟩
          have Ho13 := Lib.hid (Ho12.out.step hb)
          have Hq13 := Lib.hid (Hq12.out.step hb)
          have Hr13 := Lib.hid (Hr12.out.step hb)
          have Hc213 := Lib.hid (Hc212.out.step hb)
          have Hd213 := Lib.hid hd
          have hbL13 := hbL12.trans (hb.mono hbL12.size)
          clear hd hb Ho12 Hq12 Hr12 Hc212 Hyy12 C_d2 hbL12
          go_wp2_with fail
          refine (C_a2.out V13 _ _ Ho13.out Hq13.out).mono ?_
          rintro e V14 ⟨⟨w_a2, rfl, hd⟩, hb⟩
          have Ho14 := Lib.hid (Ho13.out.step hb)
          have Hr14 := Lib.hid (Hr13.out.step hb)
          have Hc214 := Lib.hid (Hc213.out.step hb)
          have Hd214 := Lib.hid (Hd213.out.step hb)
          have Ha214 := Lib.hid hd
          have hbL14 := hbL13.trans (hb.mono hbL13.size)
          clear hd hb Ho13 Hq13 Hr13 Hc213 Hd213 C_a2 hbL13
          go_wp2_with fail
          refine (HK.out V14).mono ?_
          rintro e V15 ⟨⟨w_k, rfl, hd⟩, hb⟩
          have Ho15 := Lib.hid (Ho14.out.step hb)
          have Hr15 := Lib.hid (Hr14.out.step hb)
          have Hc215 := Lib.hid (Hc214.out.step hb)
          have Hd215 := Lib.hid (Hd214.out.step hb)
          have Ha215 := Lib.hid (Ha214.out.step hb)
          have Hk15 := Lib.hid hd
          have hbL15 := hbL14.trans (hb.mono hbL14.size)
          clear hd hb Ho14 Hr14 Hc214 Hd214 Ha214 hbL14
          go_wp2_with fail
          refine (C_z1.out V15 _ _ Hk15.out Hr15.out).mono ?_
          rintro e V16 ⟨⟨w_z1, rfl, hd⟩, hb⟩
          have Ho16 := Lib.hid (Ho15.out.step hb)
          have Hr16 := Lib.hid (Hr15.out.step hb)
          have Hc216 := Lib.hid (Hc215.out.step hb)
          have Hd216 := Lib.hid (Hd215.out.step hb)
          have Ha216 := Lib.hid (Ha215.out.step hb)
          have Hz116 := Lib.hid hd
          have hbL16 := hbL15.trans (hb.mono hbL15.size)
          clear hd hb Ho15 Hr15 Hc215 Hd215 Ha215 Hk15 C_z1 hbL15
          go_wp2_with fail
          refine (C_z2.out V16 _ _ Ho16.out Hz116.out).mono ?_
          rintro e V17 ⟨⟨w_z2, rfl, hd⟩, hb⟩
          have Hr17 := Lib.hid (Hr16.out.step hb)
          have Hc217 := Lib.hid (Hc216.out.step hb)
          have Hd217 := Lib.hid (Hd216.out.step hb)
          have Ha217 := Lib.hid (Ha216.out.step hb)
          have Hz217 := Lib.hid hd
          have hbL17 := hbL16.trans (hb.mono hbL16.size)
          clear hd hb Ho16 Hr16 Hc216 Hd216 Ha216 Hz116 C_z2 hbL16
          go_wp2_with fail
          refine (C_b2.out V17 _ _ Hr17.out Hz217.out).mono ?_
          rintro e V18 ⟨⟨w_b2, rfl, hd⟩, hb⟩
          have Hc218 := Lib.hid (Hc217.out.step hb)
          have Hd218 := Lib.hid (Hd217.out.step hb)
          have Ha218 := Lib.hid (Ha217.out.step hb)
          have Hb218 := Lib.hid hd
          have hbL18 := hbL17.trans (hb.mono hbL17.size)
          clear hd hb Hr17 Hc217 Hd217 Ha217 Hz217 C_b2 hbL17
          go_wp2_with fail
          go_roundw
          case rel => exact ⟨n + 1, by omega, by congr 1; omega, by rw [HST.out]; exact Hc218.out, by rw [HST.out]; exact Hd218.out, by rw [HST.out]; exact Ha218.out, by rw [HST.out]; exact Hb218.out, hbL18⟩
          case measure => simp [intOf] <;> omega
      · obtain rfl : n = 255 := by omega
        have hd : decide ((0 : Int) ≤ 254 - ((255 : Nat) : Int)) = false := by decide
        obtain ⟨hla, hlb, hlc, hld⟩ := HOK.out 255
        have HV := Lib.hid (invRef_any _ _ wr hlb HLb.out)
        have hli : invF (ladN u ks 255).b < pF := powF_lt _ _
        have HM := Lib.hid (fun (W : World) (x1 x2 : Value) (h1 : DigAt W x1 (digN (ladN u ks 255).a)) (h2 : DigAt W x2 (digN (invF (ladN u ks 255).b))) => mulRef_any x1 x2 _ _ W hla hli h1 h2)
        rw [← HSH.out] at HM
        have HBy := Lib.hid (fun (W : World) (x1 : Value) (h1 : DigAt W x1 (digN (shareF s.data.toList p.data.toList))) => bytesRef_any x1 _ W h1)
        have HZ := Lib.hid (leF_zero_iff (shareF s.data.toList p.data.toList) (shareF_lt _ _))
        have HAns : Hid (ansL s.data.toList p.data.toList = if shareF s.data.toList p.data.toList = 0 then .tuple #[.string ⟨#[]⟩, .int .i64 21] else .tuple #[.string ⟨(leF (shareF s.data.toList p.data.toList) 32).toArray⟩, .int .i64 0]) := Lib.hid rfl
        have hb12 := hb11.trans (hbL.mono hb11.size)
        clear hla hlb hlc hld hli HLb HLc HLd HOK HK HSH hgl hb11 hbL HU5 HO5
        generalize shareF s.data.toList p.data.toList = X at *
        generalize ladN u ks 255 = q0 at *
        go_wp2_with fail
        refine HV.out.mono ?_
        rintro e W6 ⟨⟨dv, rfl, hdv⟩, hb⟩
        have HLa6 := Lib.hid (HLa.out.step hb)
        have HI6 := Lib.hid hdv
        have hb13 := hb12.trans (hb.mono hb12.size)
        clear hdv hb hb12 HLa HV
        go_wp2_with fail
        refine (HM.out W6 _ _ HLa6.out HI6.out).mono ?_
        rintro e W7 ⟨⟨dm, rfl, hdm⟩, hb⟩
        have HM7 := Lib.hid hdm
        have hb14 := hb13.trans (hb.mono hb13.size)
        clear hdm hb hb13 HLa6 HI6 HM
        go_wp2_with fail
        refine (HBy.out W7 _ HM7.out).mono ?_
        rintro e W8 ⟨rfl, hb⟩
        have hb15 := hb14.trans (hb.mono hb14.size)
        have hmk := make_nil W8 32 32 rfl (by decide)
        have hcv := text_nil (W8.alloc (nilO 32)) W8.heap.size 32 (blk_new W8 (nilO 32))
        have hb16 := hb15.trans ((below_new W8 (nilO 32)).mono hb15.size)
        clear hb hb14 hb15 HBy HM7
        by_cases hX : X = 0
        · have heq : (((⟨(leF X 32).toArray⟩ : ByteArray).toList) == (nilB 32).toList) = true := by rw [HZ.out.2 hX]; exact same_texts _
          have HA : Hid (ansL s.data.toList p.data.toList = .tuple #[.string ⟨#[]⟩, .int .i64 21]) := Lib.hid (by rw [HAns.out, if_pos hX])
          clear hX HZ HAns
          generalize (⟨(leF X 32).toArray⟩ : ByteArray) = out at *
          go_wp2_with fail
          go_ret2
          exact ⟨by rw [HA.out]; rfl, hb16⟩
        · have heq : (((⟨(leF X 32).toArray⟩ : ByteArray).toList) == (nilB 32).toList) = false := by
            rw [Lib.toList_data, Lib.toList_data]
            exact beq_eq_false_iff_ne.2 fun h => hX (HZ.out.1 h)
          have HA : Hid (ansL s.data.toList p.data.toList = .tuple #[.string ⟨(leF X 32).toArray⟩, .int .i64 0]) := Lib.hid (by rw [HAns.out, if_neg hX])
          clear hX HZ HAns
          generalize (⟨(leF X 32).toArray⟩ : ByteArray) = out at *
          go_wp2_with fail
          go_ret2
          exact ⟨by rw [HA.out]; rfl, hb16⟩
end Go.Proofs.YtnodllkfmdhhlaaDoor
