/- The reference's round keys. -/
import Derived.Test.YtoejkiblampecaaDoorAesWith
import Derived.Test.YtoejkiblampecaaDoorAesSt3
import Derived.Test.YtoejkiblampecaaDoorOwnF
namespace Go.Proofs.YtoejkiblampecaaDoor
open Go.RowKit Go.Sort
set_option maxRecDepth 100000
set_option linter.unusedSimpArgs false
set_option linter.unusedVariables false

/-- So many bytes of the round keys, one behind the other. -/
def kfl (key : List UInt8) (n : Nat) : List UInt8 := genL (fun i => (rk key (i / 16)).getD (i % 16) 0) n
theorem kfl_length (key : List UInt8) (n : Nat) : (kfl key n).length = n := genL_length _ _
theorem kfl_get (key : List UInt8) (n i : Nat) (h : i < n) : (kfl key n).getD i 0 = (rk key (i / 16)).getD (i % 16) 0 := by rw [kfl, genL, range_getD _ _ _ h]
theorem kfl_first (key : List UInt8) (h : key.length = 16) : kfl key 16 = key := bytes_ext (kfl_length _ _) h fun i hi => by
  rw [kfl_get _ _ _ hi, show i / 16 = 0 by omega, show i % 16 = i by omega]; rfl
theorem kfl_snoc (key : List UInt8) (n : Nat) : kfl key n ++ [(rk key (n / 16)).getD (n % 16) 0] = kfl key (n + 1) := genL_succ _ _
/-- Byte r of what goes into the word i. -/
def lastB (key : List UInt8) (i r : Nat) : UInt8 := nbPre (rk key (i / 4 - 1)) (pw (i / 4 - 1)) r (i % 4)
theorem rk_byte (key : List UInt8) (i r : Nat) (hi : 4 ≤ i) (hr : r < 4) : (rk key ((4 * i + r) / 16)).getD ((4 * i + r) % 16) 0 = (rk key ((4 * i - 16 + r) / 16)).getD ((4 * i - 16 + r) % 16) 0 ^^^ lastB key i r := by
  obtain ⟨m, hm⟩ : ∃ m, i / 4 = m + 1 := ⟨i / 4 - 1, by omega⟩
  rw [show (4 * i + r) / 16 = m + 1 by omega, show (4 * i + r) % 16 = 4 * (i % 4) + r by omega, show (4 * i - 16 + r) / 16 = m by omega, show (4 * i - 16 + r) % 16 = 4 * (i % 4) + r by omega, lastB, hm, Nat.add_sub_cancel, UInt8.xor_comm, nb_pre]
  rw [rk, nxL, range_getD _ _ _ (by omega), show (4 * (i % 4) + r) % 4 = r by omega, show (4 * (i % 4) + r) / 4 = i % 4 by omega]
/-- A word that is no key's first goes on from the word ahead of it. -/
theorem lastB_next (key : List UInt8) (i r : Nat) (hi : 4 ≤ i) (hr : r < 4) (hc : i % 4 ≠ 0) : lastB key i r = (rk key ((4 * i - 4 + r) / 16)).getD ((4 * i - 4 + r) % 16) 0 := by
  obtain ⟨m, hm⟩ : ∃ m, i / 4 = m + 1 := ⟨i / 4 - 1, by omega⟩
  obtain ⟨c, hc'⟩ : ∃ c, i % 4 = c + 1 := ⟨i % 4 - 1, by omega⟩
  rw [lastB, hm, hc', Nat.add_sub_cancel, show (4 * i - 4 + r) / 16 = m + 1 by omega, show (4 * i - 4 + r) % 16 = 4 * c + r by omega, rk, nxL, range_getD _ _ _ (by omega), show (4 * c + r) % 4 = r by omega, show (4 * c + r) / 4 = c by omega]
  rfl
theorem lastB_first (key : List UInt8) (i r : Nat) (hi : 4 ≤ i) (hr : r < 4) (hc : i % 4 = 0) : lastB key i r = sb ((rk key ((4 * i - 4 + (r + 1) % 4) / 16)).getD ((4 * i - 4 + (r + 1) % 4) % 16) 0) ^^^ (if r = 0 then pw ((i - 1) / 4) else 0) := by
  obtain ⟨m, hm⟩ : ∃ m, i / 4 = m + 1 := ⟨i / 4 - 1, by omega⟩
  rw [lastB, hm, hc, Nat.add_sub_cancel, show (4 * i - 4 + (r + 1) % 4) / 16 = m by omega, show (4 * i - 4 + (r + 1) % 4) % 16 = 12 + (r + 1) % 4 by omega, show (i - 1) / 4 = m by omega]
  rfl
/-- The table of bytes in memory. -/
def TabB (W : World) (S : Nat) : Prop := ∀ x : UInt8, W.cell? ⟨S, x.toNat, none⟩ = some (.int .u8 ((sb x).toNat : Int))
theorem TabB.of_row {W : World} {S : Nat} {T : TypeId} {fr : Nat × Nat} (h : W.heap[S]? = some (.cells (bcells tabL) T fr)) : TabB W S := fun x => by
  rw [bcell_at h x.toNat (by simp [tabL]; exact UInt8.toNat_lt x), tabL, range_getD _ _ _ (UInt8.toNat_lt x)]
  rfl
theorem TabB.lt {W : World} {S : Nat} (h : TabB W S) : S < W.heap.size := block_lt_of_cell (h 0)
theorem TabB.below {W W' : World} {S B : Nat} (h : TabB W S) (hb : Below B W W') (hS : S < B) : TabB W' S := fun x => (hb.cell (p := ⟨S, x.toNat, none⟩) hS).trans (h x)
theorem own_weaken {W : World} {base base' : Nat} {v : Value} {xs : List Value} (h : Own W base v xs) (hb : base' ≤ base) : Own W base' v xs := by
  rcases h with h | ⟨g, cap, hv, h⟩
  · exact .inl h
  · exact .inr ⟨g, cap, hv, Nat.le_trans hb h.base, h.le, h.cells, h.room⟩
/-- The string of a part of a row of bytes. -/
theorem run_string_at (w : World) (g off cap n : Nat) (l : List UInt8) (hl : l.length = n) (h : ∀ j x, l[j]? = some x → w.cell? ⟨g, off + j, none⟩ = some (.int .u8 x.toNat)) :
    (convert 31 9 (.slice (some ⟨g, off, none⟩) n cap)).run Tryd.prog w = .ok (.string ⟨l.toArray⟩) w := by
  subst hl
  have hld : (loadCells ⟨g, off, none⟩ l.length).run Tryd.prog w = .ok (bcells l) w := by
    have := run_loadCells_list (P := Tryd.prog) w ⟨g, off, none⟩ (Lib.byteCells l) (fun j v hv => by
      have hadd : (⟨g, off, none⟩ : Addr).add j = ⟨g, off + j, none⟩ := by unfold Addr.add; split <;> simp_all
      rw [hadd]
      simp only [Lib.byteCells, List.getElem?_map, Option.map_eq_some_iff] at hv
      obtain ⟨x, hx, rfl⟩ := hv
      exact h j x hx)
    rwa [Lib.byteCells_length] at this
  rw [run_convert_bytes_string w 31 9 5 _ _ _ Tryd.underlying31 Tryd.underlying5 Tryd.underlying9,
    run_bytesToString w ⟨g, off, none⟩ l.length cap (l.map fun b => (b.toNat : Int)) (by rw [hld]; simp [bcells, Lib.byteCells]), pushes]
  simp
theorem kfl_part (kl : List UInt8) (hk : kl.length = 16) (W : World) (g : Nat) (h : BytesAt W g 176 (kfl kl 176)) (i : Nat) (hi : i < 11) : ∀ j x, (rk kl i)[j]? = some x → W.cell? ⟨g, 16 * i + j, none⟩ = some (.int .u8 (x.toNat : Int)) := fun j x hx => by
  have hj : j < 16 := by have := (List.getElem?_eq_some_iff.1 hx).1; rwa [rk_length kl hk i] at this
  rw [h (16 * i + j) (by omega), kfl_get _ _ _ (by omega), show (16 * i + j) / 16 = i by omega, show (16 * i + j) % 16 = j by omega, List.getD_eq_getElem?_getD, hx]
  rfl
def rkW (key : List UInt8) (n : Nat) : List Value := (List.range n).map fun i => Value.string ⟨(rk key i).toArray⟩
theorem rkW_length (key : List UInt8) (n : Nat) : (rkW key n).length = n := by simp [rkW]
theorem rkW_snoc (key : List UInt8) (n : Nat) : rkW key n ++ [.string ⟨(rk key n).toArray⟩] = rkW key (n + 1) := by simp [rkW, List.range_succ]
theorem binfo_string : (Tryd.prog.info? 9).map (fun i => (i.zero, i.size, i.bytes)) = some (some (.string ⟨#[]⟩), 1, 16) := by kernel_rfl
theorem pw_tm : ∀ j, j < 10 → tm (pw j).toNat 2 = (pw (j + 1)).toNat := by decide +kernel

set_option maxHeartbeats 4000000 in
theorem refKeys_any (key : ByteArray) (S sc : Nat) (w : World) (hk : key.size = 16) (hT : TabB w S) :
    Calls Tryd.prog 38 #[.string key, .slice (some ⟨S, 0, none⟩) 256 sc] w fun e w' => (∃ ao cap, e = .returned (.slice ao 11 cap) ∧ Own w' w.heap.size (.slice ao 11 cap) ((List.range 11).map fun i => Value.string ⟨(rk key.data.toList i).toArray⟩)) ∧ Below w.heap.size w w' := by
  obtain ⟨i0, hi, hz0, hz1, hz2⟩ := info_parts info_u8
  obtain ⟨ao0, cap0, hcv, hown0, hb0⟩ := run_convert_string_bytes_own key w
  have hkl : key.data.toList.length = 16 := by rw [← Lib.size_eq]; exact hk
  rw [hk] at hcv hown0
  have hSl := hT.lt
  have HT := Lib.hid hT
  have hsz0 := hb0.size
  generalize hBB : w.heap.size = B at *
  have HBB := Lib.hid hBB
  generalize Lib.bytesWorld w 5 key = W0 at *
  have HO0 := Lib.hid hown0
  have HKF := Lib.hid (kfl_first key.data.toList hkl)
  have HKL := Lib.hid hkl
  have HB0 := Lib.hid hb0
  clear hBB hown0 hkl hk hT hb0
  generalize key.data.toList = kl at *
  go_enter Tryd.func38, Tryd.ntmps38
  go_wp2_with fail
  clear hcv
  go_loopw [5, 6, 7] (fun v cv iv wr => ∃ (i n : Nat) (ao : Option Addr) (cap : Nat), 4 ≤ i ∧ i ≤ 44 ∧ Hid (n = 4 * i) ∧ iv = .int .i64 (i : Int) ∧ cv = .int .i64 (((pw ((i - 1) / 4)).toNat : Nat) : Int) ∧ v = .slice ao n cap ∧ Own wr B (.slice ao n cap) (Lib.byteCells (kfl kl n)) ∧ Below B w wr ∧ B ≤ wr.heap.size) (fun _ _ iv _ => 44 - (intOf iv).toNat)
  case atStart => exact ⟨4, 16, ao0, cap0, by omega, by omega, Lib.hid rfl, rfl, rfl, rfl, by rw [HKF.out]; exact HO0.out, HB0.out, hsz0⟩
  case round =>
    clear HO0 HB0 hsz0
    obtain ⟨i, n, ao, cap, hi4, hi44, HN, rfl, rfl, rfl, hown, hb, hsz⟩ := hrel
    have HO := Lib.hid hown
    have HTr := Lib.hid (HT.out.below hb hSl)
    clear hown
    by_cases hlt : i < 44
    · have hd : decide ((i : Int) < 44) = true := by simp; omega
      have hn := HN.out
      have hnb : n ≤ 200 := by omega
      obtain ⟨g, rfl, hby⟩ := own_bytes HO.out (kfl_length kl n) (by omega)
      have t1 : (4 * (i : Int) - 4).toNat = 4 * i - 4 := by omega
      have t2 : (4 * (i : Int) - 3).toNat = 4 * i - 3 := by omega
      have t3 : (4 * (i : Int) - 2).toNat = 4 * i - 2 := by omega
      have t4 : (4 * (i : Int) - 1).toNat = 4 * i - 1 := by omega
      have b1 : 4 * (i : Int) - 4 < (n : Int) := by omega
      have b2 : 4 * (i : Int) - 3 < (n : Int) := by omega
      have b3 : 4 * (i : Int) - 2 < (n : Int) := by omega
      have b4 : 4 * (i : Int) - 1 < (n : Int) := by omega
      have p1 : (0 : Int) ≤ 4 * (i : Int) - 4 := by omega
      have p2 : (0 : Int) ≤ 4 * (i : Int) - 3 := by omega
      have p3 : (0 : Int) ≤ 4 * (i : Int) - 2 := by omega
      have p4 : (0 : Int) ≤ 4 * (i : Int) - 1 := by omega
      have e0 : IntKind.i64.wrap (4 * (i : Int)) = 4 * (i : Int) := IntWalk.i64_in _ (by omega)
      have e1 : IntKind.i64.wrap (4 * (i : Int) - 4) = 4 * (i : Int) - 4 := IntWalk.i64_in _ (by omega)
      have e2 : IntKind.i64.wrap (4 * (i : Int) - 3) = 4 * (i : Int) - 3 := IntWalk.i64_in _ (by omega)
      have e3 : IntKind.i64.wrap (4 * (i : Int) - 2) = 4 * (i : Int) - 2 := IntWalk.i64_in _ (by omega)
      have e4 : IntKind.i64.wrap (4 * (i : Int) - 1) = 4 * (i : Int) - 1 := IntWalk.i64_in _ (by omega)
      have c1 := hby (4 * i - 4) (by omega)
      have c2 := hby (4 * i - 3) (by omega)
      have c3 := hby (4 * i - 2) (by omega)
      have c4 := hby (4 * i - 1) (by omega)
      rw [kfl_get _ _ _ (by omega)] at c1 c2 c3 c4
      have HLB := Lib.hid (fun r (hr : r < 4) (hc : i % 4 ≠ 0) => lastB_next kl i r hi4 hr hc)
      have HLB0 := Lib.hid (fun r (hr : r < 4) (hc : i % 4 = 0) => lastB_first kl i r hi4 hr hc)
      obtain ⟨x0, hx0⟩ : ∃ x, x = (rk kl ((4 * i - 4) / 16)).getD ((4 * i - 4) % 16) 0 := ⟨_, rfl⟩
      obtain ⟨x1, hx1⟩ : ∃ x, x = (rk kl ((4 * i - 3) / 16)).getD ((4 * i - 3) % 16) 0 := ⟨_, rfl⟩
      obtain ⟨x2, hx2⟩ : ∃ x, x = (rk kl ((4 * i - 2) / 16)).getD ((4 * i - 2) % 16) 0 := ⟨_, rfl⟩
      obtain ⟨x3, hx3⟩ : ∃ x, x = (rk kl ((4 * i - 1) / 16)).getD ((4 * i - 1) % 16) 0 := ⟨_, rfl⟩
      rw [← hx0] at c1; rw [← hx1] at c2; rw [← hx2] at c3; rw [← hx3] at c4
      have HX0 := Lib.hid hx0; have HX1 := Lib.hid hx1; have HX2 := Lib.hid hx2; have HX3 := Lib.hid hx3
      have HNe0 := Lib.hid (show g < wr.heap.size from block_lt_of_cell c1)
      clear hn hby hx0 hx1 hx2 hx3
      go_wp2_with fail
      have q1 := cell_regrown c1
      have q2 := cell_regrown c2
      have q3 := cell_regrown c3
      have q4 := cell_regrown c4
      refine wp_region_reads_tail 24 (by kernel_rfl) (by kernel_rfl) ?_
      simp only [List.take_succ_cons, List.take_zero, List.drop_succ_cons, List.drop_zero]
      repeat (first | go_big_quiet_step (fail) | quiet_step (fail))
      refine wpQuiet_nil ?_
      intro Y hY
      have HOy := Lib.hid (HO.out.below hY)
      have HTy := Lib.hid (HTr.out.below hY (by omega))
      have hby := hb.trans (hY.mono hsz)
      have hszy := Nat.le_trans hsz hY.size
      have hgy := Nat.lt_of_lt_of_le HNe0.out hY.size
      clear HO HTr hb hsz hY q1 q2 q3 q4 c1 c2 c3 c4 t1 t2 t3 t4 b1 b2 b3 b4 p1 p2 p3 p4 e0 e1 e2 e3 e4 HNe0
      have HL0 := Lib.hid (show (Y.alloc (.cells #[.int .u8 (x0.toNat : Int), .int .u8 (x1.toNat : Int), .int .u8 (x2.toNat : Int), .int .u8 (x3.toNat : Int)] 5)).heap[Y.heap.size]? = some (.cells (bcells [x0, x1, x2, x3]) 5) from blk_new Y (.cells (bcells [x0, x1, x2, x3]) 5))
      by_cases hc : i % 4 = 0
      · have hcm : (i : Int).tmod 4 = 0 := by rw [Int.tmod_eq_emod_of_nonneg (by omega)]; omega
        have hpi : (i - 1) / 4 < 10 := by omega
        have HTm := Lib.hid (fun W => refTimes_any (pw ((i - 1) / 4)).toNat 2 W (UInt8.toNat_lt _) (by omega))
        rw [pw_tm _ hpi, show (i - 1) / 4 + 1 = (i + 1 - 1) / 4 by omega] at HTm
        have HV := Lib.hid (show ∀ r, r < 4 → ([sb x1 ^^^ pw ((i - 1) / 4), sb x2, sb x3, sb x0] : List UInt8).getD r 0 = lastB kl i r from fun r hr => by
          rw [HLB0.out r hr hc]
          rcases (show r = 0 ∨ r = 1 ∨ r = 2 ∨ r = 3 by omega) with rfl | rfl | rfl | rfl
          · rw [HX1.out, show 4 * i - 4 + (0 + 1) % 4 = 4 * i - 3 by omega]; rfl
          · rw [HX2.out, show 4 * i - 4 + (1 + 1) % 4 = 4 * i - 2 by omega]; simp
          · rw [HX3.out, show 4 * i - 4 + (2 + 1) % 4 = 4 * i - 1 by omega]; simp
          · rw [HX0.out, show 4 * i - 4 + (3 + 1) % 4 = 4 * i - 4 by omega]; simp)
        have d0 := bcell_at HL0.out 0 (by simp)
        have d1 := bcell_at HL0.out 1 (by simp)
        have d2 := bcell_at HL0.out 2 (by simp)
        have d3 := bcell_at HL0.out 3 (by simp)
        simp only [List.getD_cons_zero, List.getD_cons_succ] at d0 d1 d2 d3
        have HTz := Lib.hid (HTy.out.below (below_new Y (.cells #[.int .u8 (x0.toNat : Int), .int .u8 (x1.toNat : Int), .int .u8 (x2.toNat : Int), .int .u8 (x3.toNat : Int)] 5)) HTy.out.lt)
        have s0 := HTz.out x0; have s1 := HTz.out x1; have s2 := HTz.out x2; have s3 := HTz.out x3
        have l0 := UInt8.toNat_lt x0; have l1 := UInt8.toNat_lt x1; have l2 := UInt8.toNat_lt x2; have l3 := UInt8.toNat_lt x3
        have lp := UInt8.toNat_lt (pw ((i - 1) / 4))
        have HXx := Lib.hid (au8x (sb x1) (pw ((i - 1) / 4)))
        have HOz := Lib.hid (HOy.out.alloc (.cells #[.int .u8 (x0.toNat : Int), .int .u8 (x1.toNat : Int), .int .u8 (x2.toNat : Int), .int .u8 (x3.toNat : Int)] 5))
        have hbz := hby.alloc hszy (.cells #[.int .u8 (x0.toNat : Int), .int .u8 (x1.toNat : Int), .int .u8 (x2.toNat : Int), .int .u8 (x3.toNat : Int)] 5)
        have hszz : B ≤ (Y.alloc (.cells #[.int .u8 (x0.toNat : Int), .int .u8 (x1.toNat : Int), .int .u8 (x2.toNat : Int), .int .u8 (x3.toNat : Int)] 5)).heap.size := by simp; omega
        have hgz : g < (Y.alloc (.cells #[.int .u8 (x0.toNat : Int), .int .u8 (x1.toNat : Int), .int .u8 (x2.toNat : Int), .int .u8 (x3.toNat : Int)] 5)).heap.size := by simp; omega
        clear HOy HTy HTz hby hszy hgy HLB HLB0 HX0 HX1 HX2 HX3
        generalize pw ((i - 1) / 4) = pv at *
        have epv : (pv.toNat : Int) % 256 = (pv.toNat : Int) := by omega
        go_wp2_with fail
        have q0 := cell_regrown d0; have q1 := cell_regrown d1; have q2 := cell_regrown d2; have q3 := cell_regrown d3
        have r0 := cell_regrown s0; have r1 := cell_regrown s1; have r2 := cell_regrown s2; have r3 := cell_regrown s3
        refine wp_region_reads_tail 27 (by kernel_rfl) (by kernel_rfl) ?_
        simp only [List.take_succ_cons, List.take_zero, List.drop_succ_cons, List.drop_zero]
        repeat (first | go_big_quiet_step (fail) | quiet_step (fail))
        refine wpQuiet_nil ?_
        intro Z hZ
        have HLast := Lib.hid (show ∀ r, r < 4 → (Z.alloc (.cells #[.int .u8 ((sb x1 ^^^ pv).toNat : Int), .int .u8 ((sb x2).toNat : Int), .int .u8 ((sb x3).toNat : Int), .int .u8 ((sb x0).toNat : Int)] 5)).cell? ⟨Z.heap.size, r, none⟩ = some (.int .u8 ((lastB kl i r).toNat : Int)) from fun r hr => by
          rw [bcell_at (show (Z.alloc (.cells #[.int .u8 ((sb x1 ^^^ pv).toNat : Int), .int .u8 ((sb x2).toNat : Int), .int .u8 ((sb x3).toNat : Int), .int .u8 ((sb x0).toNat : Int)] 5)).heap[Z.heap.size]? = some (.cells (bcells [sb x1 ^^^ pv, sb x2, sb x3, sb x0]) 5) from blk_new Z (.cells (bcells [sb x1 ^^^ pv, sb x2, sb x3, sb x0]) 5)) r (by simpa using hr), HV.out r hr])
        have HLb := Lib.hid (show (Z.alloc (.cells #[.int .u8 ((sb x1 ^^^ pv).toNat : Int), .int .u8 ((sb x2).toNat : Int), .int .u8 ((sb x3).toNat : Int), .int .u8 ((sb x0).toNat : Int)] 5)).heap[Z.heap.size]? = some (.cells (bcells [sb x1 ^^^ pv, sb x2, sb x3, sb x0]) 5) from blk_new Z (.cells (bcells [sb x1 ^^^ pv, sb x2, sb x3, sb x0]) 5))
        have HOb := Lib.hid ((HOz.out.below hZ).alloc (.cells #[.int .u8 ((sb x1 ^^^ pv).toNat : Int), .int .u8 ((sb x2).toNat : Int), .int .u8 ((sb x3).toNat : Int), .int .u8 ((sb x0).toNat : Int)] 5))
        have hszZ := Nat.le_trans hszz hZ.size
        have hbb := (hbz.trans (hZ.mono hszz)).alloc hszZ (.cells #[.int .u8 ((sb x1 ^^^ pv).toNat : Int), .int .u8 ((sb x2).toNat : Int), .int .u8 ((sb x3).toNat : Int), .int .u8 ((sb x0).toNat : Int)] 5)
        have hszb : B ≤ (Z.alloc (.cells #[.int .u8 ((sb x1 ^^^ pv).toNat : Int), .int .u8 ((sb x2).toNat : Int), .int .u8 ((sb x3).toNat : Int), .int .u8 ((sb x0).toNat : Int)] 5)).heap.size := by simp; omega
        have hgZ := Nat.lt_of_lt_of_le hgz hZ.size
        have HNe := Lib.hid (show ∀ q, (Value.slice (some ⟨g, 0, none⟩) n cap).ownBlock = some q → q ≠ Z.heap.size from fun q hq => by simp [Value.ownBlock] at hq; omega)
        clear HOz hbz hszz hgz hZ hszZ hgZ d0 d1 d2 d3 s0 s1 s2 s3 q0 q1 q2 q3 r0 r1 r2 r3 HL0 HV
        go_wp2_with fail
        rw [HXx.out]
        refine (HTm.out _).mono ?_
        rintro e W9 ⟨rfl, rfl⟩
        clear HTm HXx
        generalize Z.heap.size = L at *
        generalize Z.alloc _ = Y2 at *
        go_wp2_with fail
        have hLY := blk_lt HLb.out
        go_loopw [5, 9] (fun v kv wr => ∃ (k m : Nat) (ao : Option Addr) (cap : Nat), k ≤ 4 ∧ Hid (m = n + k) ∧ kv = .int .i64 (k : Int) ∧ v = .slice ao m cap ∧ Own wr B (.slice ao m cap) (Lib.byteCells (kfl kl m)) ∧ Below B w wr ∧ B ≤ wr.heap.size ∧ (∀ r, r < 4 → wr.cell? ⟨L, r, none⟩ = some (.int .u8 ((lastB kl i r).toNat : Int))) ∧ (∀ q, (Value.slice ao m cap).ownBlock = some q → q ≠ L) ∧ L < wr.heap.size) (fun _ kv _ => 4 - (intOf kv).toNat)
        case atStart => exact ⟨0, n, some ⟨g, 0, none⟩, cap, by omega, Lib.hid rfl, rfl, rfl, HOb.out, hbb, hszb, HLast.out, HNe.out, hLY⟩
        case round =>
          clear HOb hbb hszb HLast HNe hLY HLb
          obtain ⟨k, m, ao, cp, hk4, HM, rfl, rfl, hown, hb, hsz, hlast, hne, hLlt⟩ := hrel
          have HO2 := Lib.hid hown
          have HL2 := Lib.hid (bcs_length _ _ (kfl_length kl m))
          have HNe := Lib.hid hne
          have HLa := Lib.hid hlast
          clear hown hne hlast
          by_cases hk : k < 4
          · have hd2 : decide ((k : Int) < 4) = true := by simp; omega
            have hnn := HN.out
            have hmm := HM.out
            obtain ⟨g2, rfl, hby⟩ := own_bytes HO2.out (kfl_length kl m) (by omega)
            have ck := hby (4 * i - 16 + k) (by omega)
            rw [kfl_get _ _ _ (by omega)] at ck
            have cl := HLa.out k hk
            have HXX := Lib.hid (au8x ((rk kl ((4 * i - 16 + k) / 16)).getD ((4 * i - 16 + k) % 16) 0) (lastB kl i k))
            rw [← rk_byte kl i k hi4 hk] at HXX
            have HNX := Lib.hid (show Lib.byteCells (kfl kl m) ++ [.int .u8 (((rk kl ((4 * i + k) / 16)).getD ((4 * i + k) % 16) 0).toNat : Int)] = Lib.byteCells (kfl kl (m + 1)) from by rw [bcs_snoc, show 4 * i + k = m by omega, kfl_snoc])
            have t5 : (4 * (i : Int) - 16 + (k : Int)).toNat = 4 * i - 16 + k := by omega
            have b5 : 4 * (i : Int) - 16 + (k : Int) < (m : Int) := by omega
            have p5 : (0 : Int) ≤ 4 * (i : Int) - 16 + (k : Int) := by omega
            have e5 : IntKind.i64.wrap (4 * (i : Int)) = 4 * (i : Int) := IntWalk.i64_in _ (by omega)
            have e6 : IntKind.i64.wrap (4 * (i : Int) - 16) = 4 * (i : Int) - 16 := IntWalk.i64_in _ (by omega)
            have e7 : IntKind.i64.wrap (4 * (i : Int) - 16 + (k : Int)) = 4 * (i : Int) - 16 + (k : Int) := IntWalk.i64_in _ (by omega)
            have hmb : m ≤ 300 := by omega
            clear hby hnn hmm
            generalize (rk kl ((4 * i + k) / 16)).getD ((4 * i + k) % 16) 0 = z at *
            generalize (rk kl ((4 * i - 16 + k) / 16)).getD ((4 * i - 16 + k) % 16) 0 = x at *
            generalize lastB kl i k = y at *
            generalize Lib.byteCells (kfl kl m) = cu at *
            go_wp2_with fail
            have q1 := cell_regrown ck
            have q2 := cell_regrown cl
            refine wp_region_moves_tail 14 _ rfl rfl rfl (by kernel_rfl) (by kernel_rfl) (fun _ _ _ _ h => h) ?_
            simp only [Nat.reduceSub, List.take_succ_cons, List.take_zero, List.drop_succ_cons, List.drop_zero]
            dsimp only [Act.put, Act.eval]
            repeat (first | go_big_quiet_step (fail) | quiet_step (fail))
            refine wpQuiet_nil ?_
            intro W4 hb4
            have HO4 := Lib.hid (HO2.out.below hb4)
            have hbB : Below B w W4 := hb.trans (hb4.mono hsz)
            have hsz4 := Nat.le_trans hsz hb4.size
            have HL4 := Lib.hid (fun r hr => (hb4.cell (p := ⟨L, r, none⟩) hLlt).trans (HLa.out r hr))
            have hLlt4 := Nat.lt_of_lt_of_le hLlt hb4.size
            clear HO2 hb hb4 q1 q2 ck cl HLa hLlt
            go_wp2_with (at_builtin; refine wpList_append_slF rfl (.tmp 80) (.tmp 94) 31 rfl B 5 i0 (.int .u8 0) 1 Tryd.underlying31 hi hz0 hz1 hz2 rfl (some ⟨g2, 0, none⟩) m cp _ rfl (HO4.out.alloc _) HL2.out ⟨W4.heap.size, 0, none⟩ 1 1 [.int .u8 _] rfl rfl (cell_one_new _ _ _) ?d2 ?d3 ?d4 ?d5 ?_)
            case d2 => intro u hu; simp at hu; subst hu; rfl
            case d3 => omega
            case d4 => omega
            case d5 => simp; omega
            intro ao5 cp5 W5 hown5 hgrow5 hfar
            have hb5 : Below B w W5 := below_append (hbB.alloc hsz4 _) (by simp; omega) (HO4.out.alloc _) hgrow5
            have hsz5 : B ≤ W5.heap.size := by have := hgrow5.size; simp at this; omega
            rw [HXX.out, HNX.out] at hown5
            have HO5 := Lib.hid hown5
            have hg2L := HNe.out g2 rfl
            have HL5 := Lib.hid (fun r (hr : r < 4) => show W5.cell? ⟨L, r, none⟩ = some (.int .u8 ((lastB kl i r).toNat : Int)) from by
              rw [World.cell?_of_block (a := ⟨L, r, none⟩) (hgrow5.block L (by simp; omega) (by simp [Value.ownBlock]; omega))]
              exact ((below_new W4 _).cell (p := ⟨L, r, none⟩) hLlt4).trans (HL4.out r hr))
            have HNe5 := Lib.hid (show ∀ q, (Value.slice ao5 (m + 1) cp5).ownBlock = some q → q ≠ L from fun q hq => by
              rcases hfar q hq with h | h
              · simp [Value.ownBlock] at h; omega
              · first | omega | (simp at h; omega))
            have hL5 : L < W5.heap.size := by have := hgrow5.size; simp at this; omega
            clear hgrow5 HO4 hbB hsz4 HL4 hLlt4 hown5 hfar HNe hg2L
            go_wp2_with fail
            go_roundw
            case rel => exact ⟨k + 1, m + 1, ao5, cp5, by omega, Lib.hid (by have := HM.out; omega), by go_num, rfl, HO5.out, hb5, hsz5, HL5.out, HNe5.out, hL5⟩
            case measure => simp [intOf]; omega
          · have hd2 : decide ((k : Int) < 4) = false := by simp; omega
            obtain rfl : k = 4 := by omega
            go_wp2_with fail
            go_roundw
            case rel => exact ⟨i + 1, m, ao, cp, by omega, by omega, Lib.hid (by have := HM.out; have := HN.out; omega), by go_num, rfl, rfl, HO2.out, hb, hsz⟩
            case measure => simp [intOf]; omega
      · have hcm : (((i : Int) % 4) == 0) = false := by simp; omega
        have HV := Lib.hid (show ∀ r, r < 4 → ([x0, x1, x2, x3] : List UInt8).getD r 0 = lastB kl i r from fun r hr => by
          rw [HLB.out r hr hc]
          rcases (show r = 0 ∨ r = 1 ∨ r = 2 ∨ r = 3 by omega) with rfl | rfl | rfl | rfl
          · rw [HX0.out]; simp
          · rw [HX1.out, show 4 * i - 4 + 1 = 4 * i - 3 by omega]; simp
          · rw [HX2.out, show 4 * i - 4 + 2 = 4 * i - 2 by omega]; simp
          · rw [HX3.out, show 4 * i - 4 + 3 = 4 * i - 1 by omega]; simp)
        have HLast := Lib.hid (show ∀ r, r < 4 → (Y.alloc (.cells #[.int .u8 (x0.toNat : Int), .int .u8 (x1.toNat : Int), .int .u8 (x2.toNat : Int), .int .u8 (x3.toNat : Int)] 5)).cell? ⟨Y.heap.size, r, none⟩ = some (.int .u8 ((lastB kl i r).toNat : Int)) from fun r hr => by
          rw [bcell_at HL0.out r (by simpa using hr), HV.out r hr])
        have HOb := Lib.hid (HOy.out.alloc (.cells #[.int .u8 (x0.toNat : Int), .int .u8 (x1.toNat : Int), .int .u8 (x2.toNat : Int), .int .u8 (x3.toNat : Int)] 5))
        have hbb := hby.alloc hszy (.cells #[.int .u8 (x0.toNat : Int), .int .u8 (x1.toNat : Int), .int .u8 (x2.toNat : Int), .int .u8 (x3.toNat : Int)] 5)
        have hszb : B ≤ (Y.alloc (.cells #[.int .u8 (x0.toNat : Int), .int .u8 (x1.toNat : Int), .int .u8 (x2.toNat : Int), .int .u8 (x3.toNat : Int)] 5)).heap.size := by simp; omega
        have HNe := Lib.hid (show ∀ q, (Value.slice (some ⟨g, 0, none⟩) n cap).ownBlock = some q → q ≠ Y.heap.size from fun q hq => by simp [Value.ownBlock] at hq; omega)
        have HLb := HL0
        clear HOy HTy hby hszy hgy HLB HLB0 HX0 HX1 HX2 HX3 HL0 HV
        go_wp2_with fail
        generalize Y.heap.size = L at *
        generalize Y.alloc _ = Y2 at *
        have hLY := blk_lt HLb.out
        go_loopw [5, 9] (fun v kv wr => ∃ (k m : Nat) (ao : Option Addr) (cap : Nat), k ≤ 4 ∧ Hid (m = n + k) ∧ kv = .int .i64 (k : Int) ∧ v = .slice ao m cap ∧ Own wr B (.slice ao m cap) (Lib.byteCells (kfl kl m)) ∧ Below B w wr ∧ B ≤ wr.heap.size ∧ (∀ r, r < 4 → wr.cell? ⟨L, r, none⟩ = some (.int .u8 ((lastB kl i r).toNat : Int))) ∧ (∀ q, (Value.slice ao m cap).ownBlock = some q → q ≠ L) ∧ L < wr.heap.size) (fun _ kv _ => 4 - (intOf kv).toNat)
        case atStart => exact ⟨0, n, some ⟨g, 0, none⟩, cap, by omega, Lib.hid rfl, rfl, rfl, HOb.out, hbb, hszb, HLast.out, HNe.out, hLY⟩
        case round =>
          clear HOb hbb hszb HLast HNe hLY HLb
          obtain ⟨k, m, ao, cp, hk4, HM, rfl, rfl, hown, hb, hsz, hlast, hne, hLlt⟩ := hrel
          have HO2 := Lib.hid hown
          have HL2 := Lib.hid (bcs_length _ _ (kfl_length kl m))
          have HNe := Lib.hid hne
          have HLa := Lib.hid hlast
          clear hown hne hlast
          by_cases hk : k < 4
          · have hd2 : decide ((k : Int) < 4) = true := by simp; omega
            have hnn := HN.out
            have hmm := HM.out
            obtain ⟨g2, rfl, hby⟩ := own_bytes HO2.out (kfl_length kl m) (by omega)
            have ck := hby (4 * i - 16 + k) (by omega)
            rw [kfl_get _ _ _ (by omega)] at ck
            have cl := HLa.out k hk
            have HXX := Lib.hid (au8x ((rk kl ((4 * i - 16 + k) / 16)).getD ((4 * i - 16 + k) % 16) 0) (lastB kl i k))
            rw [← rk_byte kl i k hi4 hk] at HXX
            have HNX := Lib.hid (show Lib.byteCells (kfl kl m) ++ [.int .u8 (((rk kl ((4 * i + k) / 16)).getD ((4 * i + k) % 16) 0).toNat : Int)] = Lib.byteCells (kfl kl (m + 1)) from by rw [bcs_snoc, show 4 * i + k = m by omega, kfl_snoc])
            have t5 : (4 * (i : Int) - 16 + (k : Int)).toNat = 4 * i - 16 + k := by omega
            have b5 : 4 * (i : Int) - 16 + (k : Int) < (m : Int) := by omega
            have p5 : (0 : Int) ≤ 4 * (i : Int) - 16 + (k : Int) := by omega
            have e5 : IntKind.i64.wrap (4 * (i : Int)) = 4 * (i : Int) := IntWalk.i64_in _ (by omega)
            have e6 : IntKind.i64.wrap (4 * (i : Int) - 16) = 4 * (i : Int) - 16 := IntWalk.i64_in _ (by omega)
            have e7 : IntKind.i64.wrap (4 * (i : Int) - 16 + (k : Int)) = 4 * (i : Int) - 16 + (k : Int) := IntWalk.i64_in _ (by omega)
            have hmb : m ≤ 300 := by omega
            clear hby hnn hmm
            generalize (rk kl ((4 * i + k) / 16)).getD ((4 * i + k) % 16) 0 = z at *
            generalize (rk kl ((4 * i - 16 + k) / 16)).getD ((4 * i - 16 + k) % 16) 0 = x at *
            generalize lastB kl i k = y at *
            generalize Lib.byteCells (kfl kl m) = cu at *
            go_wp2_with fail
            have q1 := cell_regrown ck
            have q2 := cell_regrown cl
            refine wp_region_moves_tail 14 _ rfl rfl rfl (by kernel_rfl) (by kernel_rfl) (fun _ _ _ _ h => h) ?_
            simp only [Nat.reduceSub, List.take_succ_cons, List.take_zero, List.drop_succ_cons, List.drop_zero]
            dsimp only [Act.put, Act.eval]
            repeat (first | go_big_quiet_step (fail) | quiet_step (fail))
            refine wpQuiet_nil ?_
            intro W4 hb4
            have HO4 := Lib.hid (HO2.out.below hb4)
            have hbB : Below B w W4 := hb.trans (hb4.mono hsz)
            have hsz4 := Nat.le_trans hsz hb4.size
            have HL4 := Lib.hid (fun r hr => (hb4.cell (p := ⟨L, r, none⟩) hLlt).trans (HLa.out r hr))
            have hLlt4 := Nat.lt_of_lt_of_le hLlt hb4.size
            clear HO2 hb hb4 q1 q2 ck cl HLa hLlt
            go_wp2_with (at_builtin; refine wpList_append_slF rfl (.tmp 80) (.tmp 94) 31 rfl B 5 i0 (.int .u8 0) 1 Tryd.underlying31 hi hz0 hz1 hz2 rfl (some ⟨g2, 0, none⟩) m cp _ rfl (HO4.out.alloc _) HL2.out ⟨W4.heap.size, 0, none⟩ 1 1 [.int .u8 _] rfl rfl (cell_one_new _ _ _) ?d2 ?d3 ?d4 ?d5 ?_)
            case d2 => intro u hu; simp at hu; subst hu; rfl
            case d3 => omega
            case d4 => omega
            case d5 => simp; omega
            intro ao5 cp5 W5 hown5 hgrow5 hfar
            have hb5 : Below B w W5 := below_append (hbB.alloc hsz4 _) (by simp; omega) (HO4.out.alloc _) hgrow5
            have hsz5 : B ≤ W5.heap.size := by have := hgrow5.size; simp at this; omega
            rw [HXX.out, HNX.out] at hown5
            have HO5 := Lib.hid hown5
            have hg2L := HNe.out g2 rfl
            have HL5 := Lib.hid (fun r (hr : r < 4) => show W5.cell? ⟨L, r, none⟩ = some (.int .u8 ((lastB kl i r).toNat : Int)) from by
              rw [World.cell?_of_block (a := ⟨L, r, none⟩) (hgrow5.block L (by simp; omega) (by simp [Value.ownBlock]; omega))]
              exact ((below_new W4 _).cell (p := ⟨L, r, none⟩) hLlt4).trans (HL4.out r hr))
            have HNe5 := Lib.hid (show ∀ q, (Value.slice ao5 (m + 1) cp5).ownBlock = some q → q ≠ L from fun q hq => by
              rcases hfar q hq with h | h
              · simp [Value.ownBlock] at h; omega
              · first | omega | (simp at h; omega))
            have hL5 : L < W5.heap.size := by have := hgrow5.size; simp at this; omega
            clear hgrow5 HO4 hbB hsz4 HL4 hLlt4 hown5 hfar HNe hg2L
            go_wp2_with fail
            go_roundw
            case rel => exact ⟨k + 1, m + 1, ao5, cp5, by omega, Lib.hid (by have := HM.out; omega), by go_num, rfl, HO5.out, hb5, hsz5, HL5.out, HNe5.out, hL5⟩
            case measure => simp [intOf]; omega
          · have hd2 : decide ((k : Int) < 4) = false := by simp; omega
            obtain rfl : k = 4 := by omega
            go_wp2_with fail
            go_roundw
            case rel => exact ⟨i + 1, m, ao, cp, by omega, by omega, Lib.hid (by have := HM.out; have := HN.out; omega), by go_num, by rw [show (i + 1 - 1) / 4 = (i - 1) / 4 by omega], rfl, HO2.out, hb, hsz⟩
            case measure => simp [intOf]; omega
    · have hd : decide ((i : Int) < 44) = false := by simp; omega
      obtain rfl : i = 44 := by omega
      obtain rfl : n = 176 := by have := HN.out; omega
      obtain ⟨g, rfl, hby⟩ := own_bytes HO.out (kfl_length kl 176) (by omega)
      have hgF : g < wr.heap.size := block_lt_of_cell (hby 0 (by omega))
      obtain ⟨s0, hs, hs0, hs1, hs2⟩ := info_parts binfo_string
      have hB0 : Hid (wr.heap.size = wr.heap.size) := Lib.hid rfl
      obtain ⟨F, hF⟩ : ∃ F, wr.heap.size = F := ⟨_, rfl⟩
      have hszF : B ≤ F := by omega
      have HBY := Lib.hid hby
      have hgF' : g < F := by omega
      have hFw : F ≤ wr.heap.size := by omega
      have hown0 := Own.nil wr F
      have hcap : 176 ≤ cap := by
        rcases HO.out with ⟨h, _⟩ | ⟨g', c', h, hh⟩
        · cases h
        · injection h with _ h2 h3
          have := hh.le
          rw [Lib.byteCells_length, kfl_length] at this
          omega
      have hbF : Below F wr wr := Below.refl _ _
      clear HO HTr hby hB0 hgF hF
      go_wp2_with fail
      go_loopw [10, 11] (fun v iv wt => ∃ (k : Nat) (ao : Option Addr) (cp : Nat), k ≤ 11 ∧ iv = .int .i64 (k : Int) ∧ v = .slice ao k cp ∧ Own wt F (.slice ao k cp) (rkW kl k) ∧ Below F wr wt ∧ F ≤ wt.heap.size) (fun _ iv _ => 11 - (intOf iv).toNat)
      case atStart => exact ⟨0, none, 0, by omega, rfl, rfl, hown0, hbF, hFw⟩
      case round =>
        clear hown0 hbF
        obtain ⟨k, ao, cp, hk, rfl, rfl, hown, hbt, hszt⟩ := hrel
        have HOk := Lib.hid hown
        have HLk := Lib.hid (rkW_length kl k)
        clear hown
        by_cases hlt2 : k < 11
        · have hd2 : decide ((k : Int) < 11) = true := by simp; omega
          have hBk : BytesAt wr g 176 (kfl kl 176) := HBY.out.below hbt hgF'
          have hcv := run_string_at wr g (16 * k) (cap - 16 * k) 16 (rk kl k) (rk_length kl HKL.out k) (kfl_part kl HKL.out wr g hBk k hlt2)
          have HNk := Lib.hid (rkW_snoc kl k)
          have u1 : (16 * (k : Int)).toNat = 16 * k := by omega
          have u2 : (16 * (k : Int) + 16).toNat = 16 * k + 16 := by omega
          have f1 : IntKind.i64.wrap (16 * (k : Int)) = 16 * (k : Int) := IntWalk.i64_in _ (by omega)
          have f2 : IntKind.i64.wrap (16 * (k : Int) + 16) = 16 * (k : Int) + 16 := IntWalk.i64_in _ (by omega)
          have g1 : (0 : Int) ≤ 16 * (k : Int) := by omega
          have g2 : 16 * (k : Int) ≤ 16 * (k : Int) + 16 := by omega
          have g3 : 16 * (k : Int) + 16 ≤ (cap : Int) := by omega
          clear hBk
          generalize (⟨(rk kl k).toArray⟩ : ByteArray) = t at *
          go_wp2_with (at_builtin; refine wpList_append_sl rfl (.tmp 100) (.tmp 109) 41 rfl F 9 s0 (.string ⟨#[]⟩) 16 Tryd.underlying41 hs hs0 hs1 hs2 rfl ao k cp _ rfl (HOk.out.alloc _) HLk.out ⟨wr.heap.size, 0, none⟩ 1 1 [.string t] rfl rfl (cell_one_new _ _ _) ?b2 ?b3 ?b4 ?b5 ?_)
          case b2 => intro u hu; simp at hu; subst hu; rfl
          case b3 => omega
          case b4 => omega
          case b5 => simp; omega
          intro ao5 cp5 W5 hown5 hgrow5
          have hb5 : Below F _ W5 := below_append (hbt.alloc hszt _) (by simp; omega) (HOk.out.alloc _) hgrow5
          have hsz5 : F ≤ W5.heap.size := by have := hgrow5.size; simp at this; omega
          rw [HNk.out] at hown5
          clear hgrow5 HOk hbt
          go_wp2_with fail
          go_roundw
          case rel => exact ⟨k + 1, ao5, cp5, by omega, by go_num, rfl, hown5, hb5, hsz5⟩
          case measure => simp [intOf]; omega
        · have hd2 : decide ((k : Int) < 11) = false := by simp; omega
          obtain rfl : k = 11 := by omega
          go_wp2_with fail
          go_ret
          exact ⟨⟨ao, cp, rfl, own_weaken HOk.out hszF⟩, hb.trans (hbt.mono hszF)⟩
end Go.Proofs.YtoejkiblampecaaDoor
