/- The reference's number below the modulus. -/
import Derived.Test.YtfidcdkoggfjaaaDoorFrFold
import Derived.Test.YtfidcdkoggfjaaaDoorOwn
namespace Go.Proofs.YtfidcdkoggfjaaaDoor
open Go.RowKit Go.Sort
set_option maxRecDepth 100000
set_option linter.unusedSimpArgs false
set_option linter.unusedVariables false

def dvl (l : List Nat) : List Value := l.map fun n : Nat => Value.int .i64 (n : Int)
theorem dvl_length (l : List Nat) : (dvl l).length = l.length := by simp [dvl]
theorem dvl_get (l : List Nat) (j : Nat) (h : j < l.length) : (dvl l)[j]? = some (.int .i64 ((l.getD j 0 : Nat) : Int)) := by simp [dvl, h]
theorem dvl_set (l : List Nat) (j x : Nat) : (dvl l).set j (.int .i64 (x : Int)) = dvl (l.set j x) := by simp [dvl, List.map_set]
theorem dvl_snoc (l : List Nat) (x : Nat) : dvl l ++ [.int .i64 (x : Int)] = dvl (l ++ [x]) := by simp [dvl]
theorem DigAt.of_own {W : World} {base g cap : Nat} {l : List Nat} (h : OwnS W base g cap (dvl l)) (hl : l.length = 16) : DigAt W (.slice (some ⟨g, 0, none⟩) 16 cap) l :=
  ⟨g, cap, rfl, fun j hj => h.cells j _ (dvl_get l j (by omega))⟩
theorem addW_c (v : List Nat) (h : ∀ j, j < 16 → v.getD j 0 < 65536) : ∀ i, i ≤ 16 → (addW v i).2 ≤ 19
  | 0, _ => by simp [addW]
  | i + 1, hi => by
    have h1 := addW_c v h i (by omega)
    have h2 := h i (by omega)
    rw [addW]
    show ((addW v i).2 + v.getD i 0) / 65536 ≤ 19
    omega
def subN (v : List Nat) : Nat → List Nat
  | 0 => v
  | r + 1 => subP (subN v r)
theorem subN_spec (v : List Nat) (hl : v.length = 16) (h : ∀ j, j < 16 → v.getD j 0 < 65536) : ∀ r, (subN v r).length = 16 ∧ ∀ j, j < 16 → (subN v r).getD j 0 < 65536
  | 0 => ⟨hl, h⟩
  | r + 1 => by
    obtain ⟨h1, h2⟩ := subN_spec v hl h r
    obtain ⟨h3, h4, _⟩ := subP_spec _ h1 h2
    exact ⟨h3, h4⟩
theorem belowD_two (v : List Nat) (h : ¬ v.getD 15 0 < 32767) : subN v 2 = belowD v := by rw [belowD, if_neg h]; rfl

set_option maxHeartbeats 4000000 in
theorem belowRef_any (d : Value) (v : List Nat) (w : World) (hd : DigAt w d v) (hl : v.length = 16) (hv : ∀ j, j < 16 → v.getD j 0 < 65536) :
    Calls Tryd.prog 34 #[d] w fun e w' => (∃ d', e = .returned d' ∧ DigAt w' d' (belowD v)) ∧ Below w.heap.size w w' := by
  obtain ⟨i0, hi, hz0, hz1, hz2⟩ := info_parts info_int
  by_cases h15 : v.getD 15 0 < 32767
  · have hdd := hd
    obtain ⟨D, cap, rfl, hc⟩ := hd
    have c15 := hc 15 (by decide)
    have hlt : decide (((v.getD 15 0 : Nat) : Int) < 32767) = true := by simp only [decide_eq_true_eq]; omega
    have HB : Hid (belowD v = v) := Lib.hid (if_pos h15)
    have HDD := Lib.hid hdd
    generalize v.getD 15 0 = t at *
    clear hdd hc
    go_enter Tryd.func34, Tryd.ntmps34
    go_wp2_with fail
    go_ret
    exact ⟨⟨_, rfl, by rw [HB.out]; exact HDD.out⟩, Below.refl _ _⟩
  · have HT := Lib.hid (belowD_two v h15)
    have HSp := Lib.hid (subN_spec v hl hv)
    have hdd := Lib.hid hd
    obtain ⟨D, cap, rfl, hc⟩ := hd
    have c15 := hc 15 (by decide)
    have hlt : decide (((v.getD 15 0 : Nat) : Int) < 32767) = false := by simp only [decide_eq_false_iff_not]; omega
    generalize v.getD 15 0 = t at *
    clear hc h15
    go_enter Tryd.func34, Tryd.ntmps34
    go_wp2_with fail
    clear c15 hlt
    go_loopw [0, 3] (fun dv kv wr => ∃ k : Nat, k ≤ 2 ∧ kv = .int .i64 (k : Int) ∧ DigAt wr dv (subN v k) ∧ Below w.heap.size w wr) (fun _ kv _ => 2 - (intOf kv).toNat)
    case atStart => exact ⟨0, by omega, rfl, hdd.out, Below.refl _ _⟩
    case round =>
      clear hdd
      obtain ⟨k, hk, rfl, hdk, hb⟩ := hrel
      have HDK := Lib.hid hdk
      by_cases hk2 : k < 2
      · have hdk2 : decide ((k : Int) < 2) = true := by simp; omega
        obtain ⟨hul, huv⟩ := HSp.out k
        have HUL := Lib.hid hul; have HUV := Lib.hid huv
        have HN : Hid (subN v (k + 1) = subP (subN v k)) := Lib.hid rfl
        have HCc := Lib.hid (addW_c (subN v k) huv)
        generalize subN v k = u at *
        obtain ⟨D2, cap2, rfl, hc2⟩ := hdk
        have HC2 := Lib.hid hc2
        clear hc2 hul huv
        go_wp2_with fail
        generalize wr = W1 at *
        generalize hNN : W1.heap.size = N at *
        have HNN := Lib.hid hNN
        have hszN : N ≤ W1.heap.size := by omega
        have hwN : w.heap.size ≤ N := by rw [← hNN]; exact hb.size
        clear hNN
        go_loopw [4, 5, 6] (fun lv cv iv ws => ∃ (i : Nat) (ao : Option Addr) (cp : Nat), i ≤ 16 ∧ iv = .int .i64 (i : Int) ∧ cv = .int .i64 (((addW u i).2 : Nat) : Int) ∧ lv = .slice ao i cp ∧ Own ws N (.slice ao i cp) (dvl (addW u i).1) ∧ Below N W1 ws ∧ N ≤ ws.heap.size) (fun _ _ iv _ => 16 - (intOf iv).toNat)
        case atStart => exact ⟨0, none, 0, by omega, rfl, rfl, rfl, Own.nil _ _, Below.refl _ _, hszN⟩
        case round =>
          obtain ⟨i, ao, cp, hi16, rfl, rfl, rfl, hown, hbn, hsz⟩ := hrel
          have HO := Lib.hid hown
          have HL := Lib.hid (show (dvl (addW u i).1).length = i by rw [dvl_length, addW_length])
          clear hown
          by_cases hlt : i < 16
          · have hdi : decide ((i : Int) < 16) = true := by simp; omega
            have hcu := (hbn.cell (p := ⟨D2, i, none⟩) (by rw [← HNN.out]; exact block_lt_of_cell (HC2.out i hlt))).trans (HC2.out i hlt)
            have hc19 := HCc.out i (by omega)
            have hu16 := HUV.out i hlt
            have HS1 : Hid ((addW u (i + 1)).1 = (addW u i).1 ++ [((addW u i).2 + u.getD i 0) % 65536]) := Lib.hid rfl
            have HS2 : Hid ((addW u (i + 1)).2 = ((addW u i).2 + u.getD i 0) / 65536) := Lib.hid rfl
            generalize (addW u i).2 = c at *
            generalize hxx : u.getD i 0 = x at *
            clear hxx
            have ha := and_16 (c + x) (by omega)
            have hs : ((c + x : Nat) : Int) = (c : Int) + (x : Int) := by omega
            rw [hs] at ha
            have HM := Lib.hid (dvl_snoc (addW u i).1 ((c + x) % 65536))
            rw [← HS1.out] at HM
            generalize (c + x) % 65536 = lo at *
            go_wp2_with (at_builtin; refine wpList_append_sl rfl (.tmp 26) (.tmp 29) 30 rfl N 3 i0 (.int .i64 0) 8 Tryd.underlying30 hi hz0 hz1 hz2 rfl ao i cp _ rfl (HO.out.alloc _) HL.out ⟨wr.heap.size, 0, none⟩ 1 1 [.int .i64 (lo : Int)] rfl rfl (cell_one_new _ _ _) ?b2 ?b3 ?b4 ?b5 ?_)
            case b2 => intro u hu; simp at hu; subst hu; rfl
            case b3 => omega
            case b4 => omega
            case b5 => simp; omega
            intro ao5 cp5 W5 hown5 hgrow5
            have hb5 : Below N W1 W5 := below_append (hbn.alloc hsz _) (by simp; omega) (HO.out.alloc _) hgrow5
            have hsz5 : N ≤ W5.heap.size := by have := hgrow5.size; simp at this; omega
            rw [HM.out] at hown5
            clear hgrow5 HO hbn ha hcu
            go_wp2_with fail
            go_roundw
            case rel => exact ⟨i + 1, ao5, cp5, by omega, by go_num, by rw [HS2.out]; go_num, rfl, hown5, hb5, hsz5⟩
            case measure => simp [intOf]; omega
          · have hdi : decide ((i : Int) < 16) = false := by simp; omega
            obtain rfl : i = 16 := by omega
            obtain ⟨g, gc, hvv, hown, hgl⟩ := HO.out.some (by rw [HL.out]; omega)
            have hv2 : Value.slice ao 16 cp = .slice (some ⟨g, 0, none⟩) 16 gc := by rw [hvv, HL.out]
            injection hv2 with h1 h2 h3
            subst h1 h3
            clear hvv
            have hw16 := addW_length u 16
            have hc19 := HCc.out 16 (by omega)
            have ht16 := addW_low u 16 15 (by decide)
            have hc15 := hown.cells 15 _ (dvl_get _ 15 (by omega))
            have hf15 := (hown.room 15 (by have := hown.le; rw [dvl_length, hw16] at this; omega)).2
            have HSub : Hid (subP u = if 32768 ≤ (addW u 16).1.getD 15 0 ∨ 0 < (addW u 16).2 then (addW u 16).1.set 15 ((addW u 16).1.getD 15 0 + 65536 * (addW u 16).2 - 32768) else u) := Lib.hid rfl
            have HOw := Lib.hid hown
            have hb2 : Below w.heap.size w wr := hb.trans (hbn.mono hwN)
            have HDs := Lib.hid (HDK.out.step (by rw [HNN.out]; exact hbn))
            generalize hcc : (addW u 16).2 = c at *
            generalize htt : (addW u 16).1.getD 15 0 = t2 at *
            generalize (addW u 16).1 = wl at *
            clear hown HO HDK hbn htt hcc
            by_cases hA : 32768 ≤ t2
            · have q1 : decide ((32768 : Int) ≤ (t2 : Int)) = true := by simp; omega
              rw [if_pos (Or.inl hA)] at HSub
              have hw15 : (15 : Nat) < (dvl wl).length := by rw [dvl_length, hw16]; decide
              obtain ⟨nv, hnv⟩ : ∃ nv, nv = t2 + 65536 * c - 32768 := ⟨_, rfl⟩
              have hst : (t2 : Int) - 32768 + 65536 * (c : Int) = (nv : Int) := by omega
              have hput := HOw.out.put 15 hw15 (.int .i64 (nv : Int))
              rw [dvl_set] at hput
              rw [← hnv] at HSub
              have hwl : (wl.set 15 nv).length = 16 := by rw [List.length_set, hw16]
              have HD2 := Lib.hid (DigAt.of_own hput hwl)
              rw [← HSub.out, ← HN.out] at HD2
              have hb3 : Below w.heap.size w (wr.setCell ⟨g, 15, none⟩ (.int .i64 (nv : Int))) := hb2.setCell (by have := HOw.out.base; show w.heap.size ≤ g; omega) _
              clear hput hwl HSub HOw hb2 HDs hnv
              go_wp2_with fail
              go_roundw
              case rel => exact ⟨k + 1, by omega, by go_num, HD2.out, hb3⟩
              case measure => simp [intOf]; omega
            · have q1 : decide ((32768 : Int) ≤ (t2 : Int)) = false := by simp; omega
              by_cases hBc : 0 < c
              · have q2 : decide ((0 : Int) < (c : Int)) = true := by simp; omega
                rw [if_pos (Or.inr hBc)] at HSub
                have hw15 : (15 : Nat) < (dvl wl).length := by rw [dvl_length, hw16]; decide
                obtain ⟨nv, hnv⟩ : ∃ nv, nv = t2 + 65536 * c - 32768 := ⟨_, rfl⟩
                have hst : (t2 : Int) - 32768 + 65536 * (c : Int) = (nv : Int) := by omega
                have hput := HOw.out.put 15 hw15 (.int .i64 (nv : Int))
                rw [dvl_set] at hput
                rw [← hnv] at HSub
                have hwl : (wl.set 15 nv).length = 16 := by rw [List.length_set, hw16]
                have HD2 := Lib.hid (DigAt.of_own hput hwl)
                rw [← HSub.out, ← HN.out] at HD2
                have hb3 : Below w.heap.size w (wr.setCell ⟨g, 15, none⟩ (.int .i64 (nv : Int))) := hb2.setCell (by have := HOw.out.base; show w.heap.size ≤ g; omega) _
                clear hput hwl HSub HOw hb2 HDs hnv
                go_wp2_with fail
                go_roundw
                case rel => exact ⟨k + 1, by omega, by go_num, HD2.out, hb3⟩
                case measure => simp [intOf]; omega
              · have q2 : decide ((0 : Int) < (c : Int)) = false := by simp; omega
                rw [if_neg (by omega)] at HSub
                rw [HSub.out] at HN
                have HD2 := Lib.hid HDs.out
                rw [← HN.out] at HD2
                clear HSub HOw
                go_wp2_with fail
                go_roundw
                case rel => exact ⟨k + 1, by omega, by go_num, HD2.out, hb2⟩
                case measure => simp [intOf]; omega
      · have hdk2 : decide ((k : Int) < 2) = false := by simp; omega
        obtain rfl : k = 2 := by omega
        rw [HT.out] at HDK
        go_wp2_with fail
        go_ret
        exact ⟨⟨_, rfl, HDK.out⟩, hb⟩
end Go.Proofs.YtfidcdkoggfjaaaDoor
