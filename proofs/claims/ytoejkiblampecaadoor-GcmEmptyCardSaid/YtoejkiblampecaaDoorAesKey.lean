/- The program's round keys. -/
import Derived.Test.YtoejkiblampecaaDoorAesSt3
import Derived.Test.YtoejkiblampecaaDoorSub
namespace Go.Proofs.YtoejkiblampecaaDoor
open Go.RowKit Go.Sort
set_option maxRecDepth 100000
set_option linter.unusedSimpArgs false
set_option linter.unusedVariables false

def kzeros : Array Value := bcells (List.replicate 176 0)
theorem infoSch : (Tryd.prog.info? 70).map (fun i => (i.zero, i.size)) = some (some (.agg kzeros), 176) := by kernel_rfl
theorem sizeSch (l : List UInt8) (h : l.length = 176) : (Tryd.prog.info? 70).map (·.size) = some (bcells l).size := by rw [bcells_size, h]; exact (zero_of_info infoSch).2
theorem kzeros_size (l : List UInt8) (h : l.length = 176) : kzeros.size = (bcells l).size := by rw [bcells_size, h]; exact bcells_size _
/-- The round keys while they are laid: so many. -/
def ksL (key : List UInt8) (m : Nat) : List UInt8 := (List.range 176).map fun i => if i / 16 < m then (rk key (i / 16)).getD (i % 16) 0 else 0
theorem ksL_length (key : List UInt8) (m : Nat) : (ksL key m).length = 176 := by simp [ksL]
theorem ksL_zero (key : List UInt8) : ksL key 0 = List.replicate 176 0 := bytes_ext (ksL_length _ _) (by simp) fun i hi => by
    rw [ksL, range_getD _ _ _ hi, if_neg (by omega), List.getD_eq_getElem?_getD, List.getElem?_replicate, if_pos hi]; rfl
theorem ksL_sub (key : List UInt8) (m i : Nat) (h : i < m) (hm : m ≤ 11) (hk : key.length = 16) : subL (ksL key m) (16 * i) 16 = rk key i := by
  refine bytes_ext (subL_length _ _ _ (by rw [ksL_length]; omega)) (rk_length key hk i) fun j hj => ?_
  rw [subL_getD _ _ _ _ hj, ksL, range_getD _ _ _ (by omega), show (16 * i + j) / 16 = i by omega, show (16 * i + j) % 16 = j by omega, if_pos h]
theorem ksL_succ (key : List UInt8) (m : Nat) (hm : m < 11) (hk : key.length = 16) : putMany (ksL key m) (16 * m) (rk key m) = ksL key (m + 1) := by
  have hr := rk_length key hk m
  refine bytes_ext (by rw [putMany_length, ksL_length]) (ksL_length _ _) fun i hi => ?_
  rw [putMany_get _ _ _ _ (by rw [ksL_length, hr]; omega), hr]
  by_cases h1 : 16 * m ≤ i ∧ i < 16 * m + 16
  · rw [if_pos h1, ksL, range_getD _ _ _ hi, if_pos (by omega), show i / 16 = m by omega, show i - 16 * m = i % 16 by omega]
  · rw [if_neg h1, ksL, range_getD _ _ _ hi, ksL, range_getD _ _ _ hi]
    by_cases h2 : i / 16 < m
    · rw [if_pos h2, if_pos (by omega)]
    · rw [if_neg h2, if_neg (by omega)]
theorem pw_dbl (i : Nat) : dblW (pw i).toNat = (pw (i + 1)).toNat ∨ 8 ≤ i := by
  by_cases h : i < 8
  · have : ∀ i, i < 8 → dblW (pw i).toNat = (pw (i + 1)).toNat := by decide +kernel
    exact .inl (this i h)
  · exact .inr (by omega)

theorem pw_dbl9 : ∀ i, i < 10 → dblW (pw i).toNat = (pw (i + 1)).toNat := by decide +kernel

set_option maxHeartbeats 1000000 in
theorem roundKeys_any (s : ByteArray) (w : World) (h : s.size = 16) (hT : TabQ w) :
    Calls Tryd.prog 43 #[.string s] w fun e w' => e = .returned (.agg (bcells (ksL s.data.toList 11))) ∧ Below w.heap.size w w' := by
  obtain ⟨hz, hi⟩ := zero_of_info infoSch
  have hl : s.data.toList.length = 16 := by rw [← Lib.size_eq]; exact h
  have HKL := Lib.hid hl
  have HR0 := Lib.hid (blk_old (o := .cells kzeros 70) (blk_new w (.cells kzeros 70)))
  have HG0 := Lib.hid (blk_new2 w (.cells kzeros 70) (.cells kzeros 70))
  have hb0 := below_new2 w (.cells kzeros 70) (.cells kzeros 70)
  have hTl := hT.lt
  have HT0 := Lib.hid (hT.step hb0)
  have HS := Lib.hid (fun W => stateOf_any s W h)
  clear hi hl h hT
  generalize hkey : s.data.toList = key at *
  have HKEY := Lib.hid hkey
  clear hkey
  go_enter Tryd.func43, Tryd.ntmps43
  go_wp2_with fail
  clear hz
  generalize ((w.alloc _).alloc _) = W0 at *
  generalize hBB : w.heap.size = B at *
  have HBB := Lib.hid hBB
  clear hBB
  refine (HS.out W0).mono ?_
  rintro e W1 ⟨rfl, hb1⟩
  have hl0 := blk_lt HG0.out
  have HR1 := Lib.hid (blk_below hb1 (by omega) HR0.out)
  have HG1 := Lib.hid (show W1.heap[B + 1]? = some (.cells (bcells (ksL key 0)) 70) from by rw [ksL_zero]; exact blk_below hb1 hl0 HG0.out)
  have HT1 := Lib.hid (HT0.out.step hb1)
  have hb2 : Below B w W1 := hb0.trans (hb1.mono (by omega))
  have hl1 := blk_lt HG1.out
  clear HS HR0 HG0 HT0 hb0 hb1 hl0
  have HIS := Lib.hid (show (Tryd.prog.info? 68).map (·.size) = some key.length from by rw [HKL.out]; exact (zero_of_info infoAes).2)
  have HP0 := Lib.hid (ksL_succ key 0 (by omega) HKL.out)
  rw [show rk key 0 = key from rfl, show 16 * 0 = 0 from rfl, show 0 + 1 = 1 from rfl] at HP0
  have HLn := Lib.hid (show 0 + key.length ≤ (ksL key 0).length from by rw [ksL_length, HKL.out]; omega)
  have HG2 := Lib.hid (setRow_heap W1 (B + 1) _ (bcells (putMany (ksL key 0) 0 key)) _ _ HG1.out)
  have HR2 := Lib.hid (show (W1.setRow (B + 1) (bcells (putMany (ksL key 0) 0 key))).heap[B]? = some (.cells kzeros 70) from by rw [setRow_other _ _ _ _ (by omega)]; exact HR1.out)
  have hb3 : Below B w (W1.setRow (B + 1) (bcells (putMany (ksL key 0) 0 key))) := below_setRow hb2 (by omega) _
  have HT2 := Lib.hid (show TabQ (W1.setRow (B + 1) (bcells (putMany (ksL key 0) 0 key))) from HT1.out.below (B := B) (below_setRow (Below.refl _ _) (by omega) _) hTl)
  rw [HP0.out] at HG2 HR2 hb3 HT2
  go_wp2_with (with_reducible refine wpList_store_sub rfl 68 _ _ rfl (B + 1) 0 (ksL key 0) key rfl rfl 70 HG1.out HIS.out HLn.out ?_)
  rw [HP0.out]
  clear HG1 HR1 HT1 hb2 HP0 HLn hl1
  generalize W1.setRow _ _ = W2 at *
  go_loopw [4, 9] (fun pv i wr => ∃ c : Nat, c ≤ 10 ∧ i = .int .i64 (c : Int) ∧ pv = .int .u64 (((pw c).toNat : Nat) : Int) ∧ wr.heap[B]? = some (.cells kzeros 70) ∧ wr.heap[B + 1]? = some (.cells (bcells (ksL key (c + 1))) 70) ∧ Below B w wr ∧ TabQ wr) (fun _ i _ => 10 - (intOf i).toNat)
  case atStart => exact ⟨0, by omega, rfl, rfl, HR2.out, HG2.out, hb3, HT2.out⟩
  case round =>
    clear HG2 HR2 hb3 HT2
    obtain ⟨c, hc, rfl, rfl, hr, hg, hb, hT⟩ := hrel
    have HG := Lib.hid hg; have HR := Lib.hid hr; have HT := Lib.hid hT
    clear hg hr hT
    by_cases hlt : c < 10
    · have hd : decide ((c : Int) < 10) = true := by simp; omega
      have e1 : IntKind.i64.wrap ((c : Int) + 1) = (c : Int) + 1 := IntWalk.i64_in _ (by omega)
      have HKN := Lib.hid (rk_length key HKL.out (c + 1))
      have HIN := Lib.hid (show (Tryd.prog.info? 68).map (·.size) = some (rk key (c + 1)).length from by rw [HKN.out]; exact (zero_of_info infoAes).2)
      have HI16 := Lib.hid (zero_of_info infoAes).2
      have HSub := Lib.hid (show subL (ksL key (c + 1)) (c * 16) 16 = rk key c from by rw [Nat.mul_comm]; exact ksL_sub key (c + 1) c (by omega) (by omega) HKL.out)
      have HPut := Lib.hid (show putMany (ksL key (c + 1)) ((c + 1) * 16) (rk key (c + 1)) = ksL key (c + 1 + 1) from by rw [Nat.mul_comm]; exact ksL_succ key (c + 1) (by omega) HKL.out)
      have HLs := Lib.hid (show c * 16 + 16 ≤ (ksL key (c + 1)).length from by rw [ksL_length]; omega)
      have HLp := Lib.hid (show (c + 1) * 16 + (rk key (c + 1)).length ≤ (ksL key (c + 1)).length from by rw [ksL_length, HKN.out]; omega)
      have HN := Lib.hid (next_any (rk key c) (pw c) wr (rk_length key HKL.out c) HT.out)
      rw [show nxL (rk key c) (pw c) = rk key (c + 1) from rfl] at HN
      have HD := Lib.hid (fun W => doubled_any (pw c).toNat W (by have := UInt8.toNat_lt (pw c); omega))
      have hpw : dblW (pw c).toNat = (pw (c + 1)).toNat := by
        have := pw_dbl9
        exact this c hlt
      rw [hpw] at HD
      clear hpw
      generalize pw c = p at *
      generalize rk key (c + 1) = kn at *
      generalize rk key c = kc at *
      generalize ksL key (c + 1) = l at *
      go_wp2_with (with_reducible refine wpList_load_sub rfl 68 _ rfl (B + 1) (c * 16) rfl 70 l 16 (0, 0) _ HG.out Tryd.underlying68 rfl HI16.out HLs.out ?_)
      rw [HSub.out]
      refine HN.out.mono ?_
      rintro e W1 ⟨rfl, hb1⟩
      clear HN HSub HLs
      have hl0 := blk_lt HG.out
      have HR1 := Lib.hid (blk_below hb1 (by omega) HR.out)
      have HG1 := Lib.hid (blk_below hb1 hl0 HG.out)
      have HT1 := Lib.hid (HT.out.step hb1)
      have hb2 : Below B w W1 := hb.trans (hb1.mono (by omega))
      have hl1 := blk_lt HG1.out
      clear HR HG HT hb hb1 hl0
      have HG2 := Lib.hid (setRow_heap W1 (B + 1) _ (bcells (putMany l ((c + 1) * 16) kn)) _ _ HG1.out)
      have HR2 := Lib.hid (show (W1.setRow (B + 1) (bcells (putMany l ((c + 1) * 16) kn))).heap[B]? = some (.cells kzeros 70) from by rw [setRow_other _ _ _ _ (by omega)]; exact HR1.out)
      have hb3 : Below B w (W1.setRow (B + 1) (bcells (putMany l ((c + 1) * 16) kn))) := below_setRow hb2 (by omega) _
      have HT2 := Lib.hid (show TabQ (W1.setRow (B + 1) (bcells (putMany l ((c + 1) * 16) kn))) from HT1.out.below (B := B) (below_setRow (Below.refl _ _) (by omega) _) hTl)
      rw [HPut.out] at HG2 HR2 hb3 HT2
      go_wp2_with (with_reducible refine wpList_store_sub rfl 68 _ _ rfl (B + 1) ((c + 1) * 16) l kn rfl rfl 70 HG1.out HIN.out HLp.out ?_)
      rw [HPut.out]
      clear HG1 HR1 HT1 hb2 hl1
      generalize W1.setRow _ _ = W2 at *
      refine (HD.out _).mono ?_
      rintro e W3 ⟨rfl, rfl⟩
      go_wp2_with fail
      go_roundw
      case rel => exact ⟨c + 1, by omega, by go_num, rfl, HR2.out, HG2.out, hb3, HT2.out⟩
      case measure => simp [intOf]; omega
    · have hd : decide ((c : Int) < 10) = false := by simp; omega
      obtain rfl : c = 10 := by omega
      have HI := Lib.hid (sizeSch _ (ksL_length key (10 + 1)))
      have HO := Lib.hid (kzeros_size _ (ksL_length key (10 + 1)))
      have H1 := Lib.hid (arr_one (ksL key (10 + 1)))
      go_wp2_with (first
        | (with_reducible refine wpList_load_row rfl 70 _ rfl (B + 1) rfl 70 _ (0, 0) _ HG.out Tryd.underlying70 rfl HI.out ?_)
        | (with_reducible refine wpList_store_row rfl 70 _ _ rfl B (bcells (ksL key (10 + 1))) rfl rfl 70 _ HR.out HI.out HO.out H1.out ?_))
      exact bodyPost_ret (v := .agg (bcells (ksL key (10 + 1)))) (results_cell_row (by rfl) _ _ B 70 _ (0, 0) _ rfl (setRow_heap _ _ _ _ _ _ HR.out) Tryd.underlying70 rfl HI.out) rfl ⟨rfl, by rw [HBB.out]; exact below_setRow hb (by omega) _⟩
end Go.Proofs.YtoejkiblampecaaDoor
