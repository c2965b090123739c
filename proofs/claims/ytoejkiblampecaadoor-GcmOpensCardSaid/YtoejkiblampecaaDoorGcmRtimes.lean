/- The reference's product of blocks. -/
import Derived.Test.YtoejkiblampecaaDoorGcmRef
import Derived.Test.YtoejkiblampecaaDoorGcmXor
namespace Go.Proofs.YtoejkiblampecaaDoor
open Go.RowKit Go.Sort
set_option maxRecDepth 100000
set_option linter.unusedSimpArgs false
set_option linter.unusedVariables false

theorem bcs_at (l : List UInt8) (j : Nat) (h : j < l.length) : (Lib.byteCells l)[j]? = some (.int .u8 ((l.getD j 0).toNat : Int)) := by
  simp [Lib.byteCells, List.getD_eq_getElem?_getD, h]
theorem ownS_at {W : World} {base g cap : Nat} {l : List UInt8} (h : OwnS W base g cap (Lib.byteCells l)) (j : Nat) (hj : j < l.length) : W.cell? ⟨g, j, none⟩ = some (.int .u8 ((l.getD j 0).toNat : Int)) := h.cells j _ (bcs_at l j hj)
theorem u8_and_one (x : UInt8) : bits .and .u8 (x.toNat : Int) 1 = ((x.toNat % 2 : Nat) : Int) := by
  have h := u8_and_nat x.toNat 1 (UInt8.toNat_lt x) (by decide)
  rw [Nat.and_one_is_mod] at h
  exact h
/-- The block while it is moved on, from its end. -/
def mvP (v : List UInt8) (i : Nat) : List UInt8 := (List.range 16).map fun j => if i < j then shB (v.getD j 0) (v.getD (j - 1) 0) else v.getD j 0
theorem mvP_length (v : List UInt8) (i : Nat) : (mvP v i).length = 16 := by simp [mvP]
theorem mvP_start (v : List UInt8) (h : v.length = 16) : mvP v 15 = v := bytes_ext (mvP_length _ _) h fun j hj => by rw [mvP, range_getD _ _ _ hj, if_neg (by omega)]
theorem mvP_at (v : List UInt8) (i j : Nat) (h : j ≤ i) (hj : j < 16) : (mvP v i).getD j 0 = v.getD j 0 := by rw [mvP, range_getD _ _ _ hj, if_neg (by omega)]
theorem mvP_succ (v : List UInt8) (i : Nat) (h0 : 0 < i) (h : i ≤ 15) : (mvP v i).set i (shB (v.getD i 0) (v.getD (i - 1) 0)) = mvP v (i - 1) := by
  refine bytes_ext (by rw [List.length_set, mvP_length]) (mvP_length _ _) fun j hj => ?_
  rw [set_getD _ _ _ _ (by rw [mvP_length]; omega)]
  unfold mvP
  rw [range_getD _ _ _ hj, range_getD _ _ _ hj]
  by_cases e : j = i
  · subst e; rw [if_pos rfl, if_pos (by omega)]
  · rw [if_neg e]
    by_cases h2 : i < j
    · rw [if_pos h2, if_pos (by omega)]
    · rw [if_neg h2, if_neg (by omega)]
theorem mvP_last (v : List UInt8) (x : UInt8) (hx : x = UInt8.ofNat ((v.getD 0 0).toNat / 2) ^^^ (if (v.getD 15 0).toNat % 2 = 1 then 0xe1 else 0)) : (mvP v 0).set 0 x = shG v := by
  refine bytes_ext (by rw [List.length_set, mvP_length]) (shG_length _) fun j hj => ?_
  rw [set_getD _ _ _ _ (by rw [mvP_length]; omega), shG, range_getD _ _ _ hj, mvP, range_getD _ _ _ hj]
  by_cases e : j = 0
  · rw [if_pos e, if_pos e, hx]
  · rw [if_neg e, if_neg e, if_pos (by omega)]
theorem mvP_end (v : List UInt8) (h : v.length = 16) : (mvP v 0).set 0 ((UInt8.ofNat ((v.getD 0 0).toNat / 2)) ^^^ 0xe1) = if (v.getD 15 0).toNat % 2 = 1 then shG v else (mvP v 0).set 0 ((UInt8.ofNat ((v.getD 0 0).toNat / 2)) ^^^ 0xe1) := by
  split
  · rename_i h1; exact mvP_last v _ (by rw [if_pos h1])
  · rfl
theorem mvP_even (v : List UInt8) (h : v.length = 16) (h1 : ¬ (v.getD 15 0).toNat % 2 = 1) : List.map (fun b : UInt8 => Value.int .u8 (b.toNat : Int)) ((mvP v 0).set 0 (UInt8.ofNat ((v.getD 0 0).toNat / 2))) = Lib.byteCells (shG v) := by
  rw [mvP_last v _ (by rw [if_neg h1, UInt8.xor_zero])]; rfl
theorem sh_walk (x y : UInt8) : bits .or .u8 ((x.toNat : Int) / 2) ((y.toNat : Int) * 128 % 256) = ((shB x y).toNat : Int) := by
  have e1 : (x.toNat : Int) / 2 = ((x.toNat / 2 : Nat) : Int) := by omega
  have e2 : (y.toNat : Int) * 128 % 256 = ((y.toNat * 128 % 256 : Nat) : Int) := by omega
  rw [e1, e2, u8_or_nat _ _ (half_lt x) (Nat.mod_lt _ (by decide)), shB_toNat]
theorem sh_walk2 (x y : UInt8) : bits .or .u8 ((x.toNat : Int) / 2) (IntKind.u8.wrap ((y.toNat : Int) * 128)) = ((shB x y).toNat : Int) := by
  rw [IntKind.wrap_u8', sh_walk]

set_option maxHeartbeats 4000000 in
theorem rtimes_any (la lb : List UInt8) (ga ca gb cb : Nat) (w : World) (ha : la.length = 16) (hb : lb.length = 16) (hA : BytesAt w ga 16 la) (hBt : BytesAt w gb 16 lb) :
    Calls Tryd.prog 32 #[.slice (some ⟨ga, 0, none⟩) 16 ca, .slice (some ⟨gb, 0, none⟩) 16 cb] w fun e w' => (∃ O, e = .returned (.slice (some ⟨O, 0, none⟩) 16 16) ∧ w.heap.size ≤ O ∧ w'.heap[O]? = some (.cells (bcells (prodG la lb)) 5)) ∧ Below w.heap.size w w' := by
  obtain ⟨i0, hi, hz0, hz1, hz2⟩ := info_parts info_u8
  have hmk : ∀ W : World, (Instr.makeSlice 31 (.int .i64 16) (.int .i64 16)).run Tryd.prog W = .ok (.slice (some ⟨W.heap.size, 0, none⟩) 16 16) (W.alloc (.cells (bcells (oG la lb 0)) 5)) := fun W => by
    have h := run_makeSlice W 31 5 i0 (.int .u8 0) Tryd.underlying31 hi hz0 .i64 .i64 16 16 (by omega) (by omega) (by rw [hz1]; omega) (by rw [hz2]; omega) (by omega)
    rw [hz1, made_zero] at h
    exact h
  have HO0 := Lib.hid (blk_new w (.cells (bcells (oG la lb 0)) 5))
  have hb0 := below_new w (.cells (bcells (oG la lb 0)) 5)
  have hal : ga < w.heap.size := block_lt_of_cell (hA 0 (by omega))
  have hbl : gb < w.heap.size := block_lt_of_cell (hBt 0 (by omega))
  have HA1 := Lib.hid (hA.step hb0)
  have HBt := Lib.hid hBt
  have HAL := Lib.hid ha; have HBL := Lib.hid hb
  have HE0 := Lib.hid mvP_even
  have hsz0 : (w.alloc (.cells (bcells (oG la lb 0)) 5)).heap.size = w.heap.size + 1 := by simp
  have HNil := Lib.hid (Own.nil (w.alloc (.cells (bcells (oG la lb 0)) 5)) (w.heap.size + 1))
  have HCl := Lib.hid (bcs_length la 16 ha)
  have HCa := Lib.hid (show ∀ j u, (Lib.byteCells la)[j]? = some u → (w.alloc (.cells (bcells (oG la lb 0)) 5)).cell? ((⟨ga, 0, none⟩ : Addr).add j) = some u from fun j u hj => by
    have hj2 : j < la.length := by have := (List.getElem?_eq_some_iff.1 hj).1; rwa [Lib.byteCells_length] at this
    rw [bcs_at la j hj2] at hj
    cases hj
    rw [Addr.add_lit, Nat.zero_add]
    exact HA1.out j (by omega))
  clear hA hBt ha hb
  go_enter Tryd.func32, Tryd.ntmps32
  go_wp2_with (at_builtin; refine wpList_append_sl rfl (.tmp 12) (.tmp 13) 31 rfl (w.heap.size + 1) 5 i0 (.int .u8 0) 1 Tryd.underlying31 hi hz0 hz1 hz2 rfl none 0 0 [] rfl HNil.out rfl ⟨ga, 0, none⟩ 16 ca (Lib.byteCells la) rfl HCl.out HCa.out ?b2 ?b3 ?b4 ?b5 ?_)
  case b2 => exact Lib.byteCells_one _
  case b3 => omega
  case b4 => omega
  case b5 => omega
  intro ao cp W1 hown hgrow

  obtain ⟨g, c', hv, hos, hgl⟩ := hown.some (by rw [HCl.out]; omega)
  injection hv with hv1 hv2 hv3
  subst hv1 hv3
  have hblk := hgrow.block w.heap.size (by omega) (by simp [Value.ownBlock])
  have HO1 := Lib.hid (hblk.trans HO0.out)
  have hb1 : Below w.heap.size w W1 := below_append hb0 (by omega) (own_weaken HNil.out (Nat.le_succ _)) hgrow
  have HV0 := Lib.hid (show OwnS W1 (w.heap.size + 1) g cp (Lib.byteCells (vG la 0)) from hos)
  have hgF : w.heap.size + 1 ≤ g := hos.base
  clear hmk HO0 hb0 HA1 HNil HCa HCl hown hgrow hos hblk hv2 hi hz0 hz1 hz2
  obtain ⟨F, hF⟩ : ∃ F, F = w.heap.size + 1 := ⟨_, rfl⟩
  obtain ⟨O, hO⟩ : ∃ O, O = w.heap.size := ⟨_, rfl⟩
  rw [← hF] at HV0
  rw [← hO] at HO1
  have HOe := Lib.hid hO
  have hFw : w.heap.size < g := by omega
  have hOg : O ≠ g := by omega
  have hOw : w.heap.size ≤ O := by omega
  clear hF
  go_wp2_with fail
  rw [← HOe.out]
  clear hO
  go_loopw [7, 8, 9, 10] (fun nv _ _ _ wr => ∃ n : Nat, n ≤ 128 ∧ nv = .int .i64 (n : Int) ∧ wr.heap[O]? = some (.cells (bcells (oG la lb n)) 5) ∧ OwnS wr F g cp (Lib.byteCells (vG la n)) ∧ Below w.heap.size w wr) (fun nv _ _ _ _ => 128 - (intOf nv).toNat)
  case atStart => exact ⟨0, by omega, rfl, HO1.out, HV0.out, hb1⟩
  case round =>
    clear HO1 HV0 hb1
    obtain ⟨n, hn, rfl, ho, hv, hb⟩ := hrel
    have HO := Lib.hid ho; have HV := Lib.hid hv
    clear ho hv
    by_cases hlt : n < 128
    · have hd : decide ((n : Int) < 128) = true := by simp; omega
      have HBit := Lib.hid (bit_any gb cb lb n wr hlt (HBt.out.below hb hbl))
      have hv16 := vG_length la HAL.out n
      have ho16 := oG_length la lb n
      cases hbt : gbit lb n with
      | false =>
        rw [hbt, show bitI false = 0 from rfl] at HBit
        have HOn := Lib.hid (show wr.heap[O]? = some (.cells (bcells (oG la lb (n + 1))) 5) from by rw [oG, hbt]; exact HO.out)
        clear HO hbt
        have HO := HOn
        clear HOn
        go_wp2_with fail
        refine HBit.out.mono ?_
        rintro e Wb ⟨rfl, rfl⟩
        clear HBit
        have HTop := Lib.hid (vG_length la HAL.out n)
        have c15 : wr.cell? ⟨g, 15, none⟩ = some (.int .u8 (((vG la n).getD 15 0).toNat : Int)) := ownS_at HV.out 15 (by rw [HTop.out]; omega)
        have HE := Lib.hid (mvP_end (vG la n) HTop.out)
        have h15 := UInt8.toNat_lt ((vG la n).getD 15 0)
        have HA := Lib.hid (u8_and_one ((vG la n).getD 15 0))
        have HV15 := Lib.hid (show OwnS wr F g cp (Lib.byteCells (mvP (vG la n) 15)) from by rw [mvP_start _ HTop.out]; exact HV.out)
        have HNx : Hid (vG la (n + 1) = shG (vG la n)) := Lib.hid rfl
        clear HV
        generalize vG la n = v at *
        generalize hx15 : v.getD 15 0 = x15 at *
        have HX15 := Lib.hid hx15
        clear hx15
        go_wp2_with fail
        rw [HA.out]
        clear c15 HA
        have hb' := hb
        go_loopw [10] (fun iv wr => ∃ i : Nat, i ≤ 15 ∧ iv = .int .i64 (i : Int) ∧ wr.heap[O]? = some (.cells (bcells (oG la lb (n + 1))) 5) ∧ OwnS wr F g cp (Lib.byteCells (mvP v i)) ∧ Below w.heap.size w wr) (fun iv _ => (intOf iv).toNat)
        case atStart => exact ⟨15, by omega, rfl, HO.out, HV15.out, hb'⟩
        case round =>
          clear HO HV15 hb' hb
          obtain ⟨i, hi, rfl, ho, hv, hb⟩ := hrel
          have HO := Lib.hid ho; have HV := Lib.hid hv
          clear ho hv
          have HSL := Lib.hid (mvP_length v i)
          by_cases hlt2 : 0 < i
          · have hd3 : decide ((0 : Int) < (i : Int)) = true := by simp; omega
            have ci : wr.cell? ⟨g, i, none⟩ = some (.int .u8 ((v.getD i 0).toNat : Int)) := by rw [← mvP_at v i i (Nat.le_refl _) (by omega)]; exact ownS_at HV.out i (by rw [HSL.out]; omega)
            have cj : wr.cell? ⟨g, i - 1, none⟩ = some (.int .u8 ((v.getD (i - 1) 0).toNat : Int)) := by rw [← mvP_at v i (i - 1) (by omega) (by omega)]; exact ownS_at HV.out (i - 1) (by rw [HSL.out]; omega)
            have HSet := Lib.hid (mvP_succ v i hlt2 hi)
            have hw1 := sh_walk (v.getD i 0) (v.getD (i - 1) 0)
            have hw2 := sh_walk2 (v.getD i 0) (v.getD (i - 1) 0)
            have HCi := Lib.hid (show (Lib.byteCells (mvP v i))[i]? = some (.int .u8 ((v.getD i 0).toNat : Int)) from by
              rw [← mvP_at v i i (Nat.le_refl _) (by omega)]; exact bcs_at _ i (by rw [HSL.out]; omega))
            generalize shB (v.getD i 0) (v.getD (i - 1) 0) = z at *
            generalize v.getD i 0 = x at *
            generalize v.getD (i - 1) 0 = y at *
            have e1 : IntKind.i64.wrap ((i : Int) - 1) = (i : Int) - 1 := IntWalk.i64_in _ (by omega)
            have e2 : ((i : Int) - 1).toNat = i - 1 := by omega
            have e3 : (0 : Int) ≤ (i : Int) - 1 := by omega
            have e4 : (i : Int) - 1 < 16 := by omega
            have e5 : (i : Int) < 16 := by omega
            have HW1 := Lib.hid hw1; have HW2 := Lib.hid hw2
            clear hw1 hw2
            go_wp2_with fail
            have q1 := cell_regrown ci
            have q2 := cell_regrown cj
            refine wp_region_reads_tail 15 (by kernel_rfl) (by kernel_rfl) ?_
            simp only [List.take_succ_cons, List.take_zero, List.drop_succ_cons, List.drop_zero]
            repeat (first | go_big_quiet_step (fail) | quiet_step (fail))
            refine wpQuiet_nil ?_
            intro Y hY
            have hlO := blk_lt HO.out
            have HO2 := Lib.hid (blk_below hY hlO HO.out)
            have HV2 := Lib.hid (HV.out.below2 hY)
            have hb2 : Below w.heap.size w Y := hb.trans (hY.mono hb.size)
            have hjl : i < (Lib.byteCells (mvP v i)).length := by rw [Lib.byteCells_length, HSL.out]; omega
            have cy := HV2.out.cells i _ HCi.out
            have fy := (HV2.out.room i (Nat.lt_of_lt_of_le hjl HV2.out.le)).2
            have HPut := Lib.hid (HV2.out.put i hjl (.int .u8 (z.toNat : Int)))
            rw [Lib.byteCells, ← List.map_set (f := fun b : UInt8 => Value.int .u8 (b.toNat : Int)), HSet.out] at HPut
            clear HO HV q1 q2 ci cj hY hb hlO
            first | rw [HW1.out] | rw [HW2.out] | skip
            go_wp2_with fail
            go_roundw
            case rel => exact ⟨i - 1, by omega, by congr 1; omega, by rw [heap_setCell_other _ _ _ _ (by simp <;> omega)]; exact HO2.out, HPut.out, hb2.setCell (by simp <;> omega) _⟩
            case measure => simp [intOf]; omega
          · have hd3 : decide ((0 : Int) < (i : Int)) = false := by simp; omega
            obtain rfl : i = 0 := by omega
            have c0 : wr.cell? ⟨g, 0, none⟩ = some (.int .u8 ((v.getD 0 0).toNat : Int)) := by rw [← mvP_at v 0 0 (Nat.le_refl _) (by omega)]; exact ownS_at HV.out 0 (by rw [HSL.out]; omega)
            have h0l : 0 < (Lib.byteCells (mvP v 0)).length := by rw [Lib.byteCells_length, HSL.out]; omega
            have f0 := (HV.out.room 0 (Nat.lt_of_lt_of_le h0l HV.out.le)).2
            have x0 := UInt8.toNat_lt (v.getD 0 0)
            have P1 := HV.out.put 0 h0l (.int .u8 ((UInt8.ofNat ((v.getD 0 0).toNat / 2)).toNat : Int))
            rw [Lib.byteCells, ← List.map_set (f := fun b : UInt8 => Value.int .u8 (b.toNat : Int))] at P1
            have e0 : ((UInt8.ofNat ((v.getD 0 0).toNat / 2)).toNat : Int) = ((v.getD 0 0).toNat : Int) / 2 := by simp only [UInt8.toNat_ofNat']; omega
            rw [e0] at P1
            have r1 : (wr.setCell ⟨g, 0, none⟩ (.int .u8 (((v.getD 0 0).toNat : Int) / 2))).heap[O]? = some (.cells (bcells (oG la lb (n + 1))) 5) := by rw [heap_setCell_other _ _ _ _ (by simp <;> omega)]; exact HO.out
            have hb1 : Below w.heap.size w (wr.setCell ⟨g, 0, none⟩ (.int .u8 (((v.getD 0 0).toNat : Int) / 2))) := hb.setCell (by simp <;> omega) _
            have HP1 := Lib.hid P1
            have HR1 := Lib.hid r1
            clear P1 r1
            by_cases hodd : x15.toNat % 2 = 1
            · have hd4 : (((x15.toNat % 2 : Nat) : Int) == 1) = true := by rw [hodd]; rfl
              have hd5 : ((x15.toNat : Int) % 2 == 1) = true := by simp; omega
              have h0l1 : 0 < (Lib.byteCells ((mvP v 0).set 0 (UInt8.ofNat ((v.getD 0 0).toNat / 2)))).length := by rw [Lib.byteCells_length, List.length_set, HSL.out]; omega
              have c1 : (wr.setCell ⟨g, 0, none⟩ (.int .u8 (((v.getD 0 0).toNat : Int) / 2))).cell? ⟨g, 0, none⟩ = some (.int .u8 (((v.getD 0 0).toNat : Int) / 2)) := by
                have hh := HP1.out.cells 0 _ (by rw [show (List.map (fun b : UInt8 => Value.int .u8 (b.toNat : Int)) ((mvP v 0).set 0 (UInt8.ofNat ((v.getD 0 0).toNat / 2)))) = Lib.byteCells ((mvP v 0).set 0 (UInt8.ofNat ((v.getD 0 0).toNat / 2))) from rfl, bcs_at _ 0 (by rw [List.length_set, HSL.out]; omega), set_getD _ _ _ _ (by rw [HSL.out]; omega), if_pos rfl])
                rw [e0] at hh
                exact hh
              have f1 := (HP1.out.room 0 (Nat.lt_of_lt_of_le h0l1 HP1.out.le)).2
              have P2 := HP1.out.put 0 h0l1 (.int .u8 (((UInt8.ofNat ((v.getD 0 0).toNat / 2)) ^^^ 0xe1).toNat : Int))
              rw [← List.map_set (f := fun b : UInt8 => Value.int .u8 (b.toNat : Int)), List.set_set, HE.out, if_pos hodd] at P2
              have ex := au8x (UInt8.ofNat ((v.getD 0 0).toNat / 2)) 0xe1
              rw [e0, show (((0xe1 : UInt8).toNat : Nat) : Int) = 225 from rfl] at ex
              have r2 : ((wr.setCell ⟨g, 0, none⟩ (.int .u8 (((v.getD 0 0).toNat : Int) / 2))).setCell ⟨g, 0, none⟩ (.int .u8 (((UInt8.ofNat ((v.getD 0 0).toNat / 2)) ^^^ 0xe1).toNat : Int))).heap[O]? = some (.cells (bcells (oG la lb (n + 1))) 5) := by rw [heap_setCell_other _ _ _ _ (by simp <;> omega)]; exact HR1.out
              have hb2 : Below w.heap.size w ((wr.setCell ⟨g, 0, none⟩ (.int .u8 (((v.getD 0 0).toNat : Int) / 2))).setCell ⟨g, 0, none⟩ (.int .u8 (((UInt8.ofNat ((v.getD 0 0).toNat / 2)) ^^^ 0xe1).toNat : Int))) := hb1.setCell (by simp <;> omega) _
              have HP2 := Lib.hid P2; have HR2 := Lib.hid r2
              clear P2 r2 HE e0
              generalize (((UInt8.ofNat ((v.getD 0 0).toNat / 2)) ^^^ 0xe1).toNat : Int) = zz at *
              generalize ((v.getD 0 0).toNat : Int) = y0 at *
              go_wp2_with fail
              go_roundw
              case rel => exact ⟨n + 1, by omega, by go_num, HR2.out, by rw [HNx.out]; exact HP2.out, hb2⟩
              case measure => simp [intOf]; omega
            · have hd4 : (((x15.toNat % 2 : Nat) : Int) == 1) = false := by rw [show x15.toNat % 2 = 0 by omega]; rfl
              have hd5 : ((x15.toNat : Int) % 2 == 1) = false := by simp; omega
              have P2 := HP1.out
              rw [HE0.out v HTop.out (by rw [HX15.out]; exact hodd)] at P2
              have HP2 := Lib.hid P2
              clear P2 HE e0
              generalize ((v.getD 0 0).toNat : Int) = y0 at *
              go_wp2_with fail
              go_roundw
              case rel => exact ⟨n + 1, by omega, by go_num, HR1.out, by rw [HNx.out]; exact HP2.out, hb1⟩
              case measure => simp [intOf]; omega
      | true =>
        rw [hbt, show bitI true = 1 from rfl] at HBit
        have HON := Lib.hid (show plS (oG la lb n) (vG la n) = oG la lb (n + 1) from by rw [oG, hbt]; rfl)
        clear hbt
        go_wp2_with fail
        refine HBit.out.mono ?_
        rintro e Wb ⟨rfl, rfl⟩
        clear HBit
        go_wp2_with fail
        have hb'' := hb
        have HV'' := HV
        go_loopw [8] (fun iv wr => ∃ i : Nat, i ≤ 16 ∧ iv = .int .i64 (i : Int) ∧ wr.heap[O]? = some (.cells (bcells (plP (oG la lb n) (vG la n) i)) 5) ∧ OwnS wr F g cp (Lib.byteCells (vG la n)) ∧ Below w.heap.size w wr) (fun iv _ => 16 - (intOf iv).toNat)
        case atStart => exact ⟨0, by omega, rfl, by rw [plP_zero _ _ ho16]; exact HO.out, HV''.out, hb''⟩
        case round =>
          clear HO HV'' HV hb'' hb
          obtain ⟨i, hi, rfl, ho, hv, hb⟩ := hrel
          have HO := Lib.hid ho; have HV := Lib.hid hv
          clear ho hv
          by_cases hli : i < 16
          · have hd2 : decide ((i : Int) < 16) = true := by simp; omega
            have HL := Lib.hid (plP_length (oG la lb n) (vG la n) i)
            have cx := bcell_at HO.out i (by rw [HL.out]; exact hli)
            have ck := ownS_at HV.out i (by rw [hv16]; exact hli)
            have HX := Lib.hid (au8x ((plP (oG la lb n) (vG la n) i).getD i 0) ((vG la n).getD i 0))
            have HSet := Lib.hid (fun (Y : World) (hY : Y.heap[O]? = some (.cells (bcells (plP (oG la lb n) (vG la n) i)) 5)) => bheap_set hY i ((plP (oG la lb n) (vG la n) i).getD i 0 ^^^ (vG la n).getD i 0))
            rw [plP_succ _ _ i hli] at HSet
            generalize (plP (oG la lb n) (vG la n) i).getD i 0 = x at *
            generalize (vG la n).getD i 0 = y at *
            go_wp2_with fail
            have q1 := cell_regrown cx
            have q2 := cell_regrown ck
            refine wp_region_reads_tail 12 (by kernel_rfl) (by kernel_rfl) ?_
            simp only [List.take_succ_cons, List.take_zero, List.drop_succ_cons, List.drop_zero]
            repeat (first | go_big_quiet_step (fail) | quiet_step (fail))
            refine wpQuiet_nil ?_
            intro Y hY
            have hlO := blk_lt HO.out
            have HO2 := Lib.hid (blk_below hY hlO HO.out)
            have HV2 := Lib.hid (HV.out.below2 hY)
            have hb2 : Below w.heap.size w Y := hb.trans (hY.mono hb.size)
            have cy := bcell_at HO2.out i (by rw [HL.out]; exact hli)
            have fy := frozen_of_row Y O i _ _ HO2.out
            clear hY q1 q2 cx ck HO HV hb hlO
            rw [HX.out]
            go_wp2_with fail
            go_roundw
            case rel => exact ⟨i + 1, by omega, by go_num, HSet.out Y HO2.out, HV2.out.keep (heap_setCell_other _ _ _ _ (by simpa using (Ne.symm hOg))), hb2.setCell (by simpa using hOw) _⟩
            case measure => simp [intOf]; omega
          · have hd2 : decide ((i : Int) < 16) = false := by simp; omega
            obtain rfl : i = 16 := by omega
            have HOn := Lib.hid (show wr.heap[O]? = some (.cells (bcells (oG la lb (n + 1))) 5) from by rw [← HON.out, ← plP_full]; exact HO.out)
            clear HO
            have HO := HOn
            clear HOn
            have HTop := Lib.hid (vG_length la HAL.out n)
            have c15 : wr.cell? ⟨g, 15, none⟩ = some (.int .u8 (((vG la n).getD 15 0).toNat : Int)) := ownS_at HV.out 15 (by rw [HTop.out]; omega)
            have HE := Lib.hid (mvP_end (vG la n) HTop.out)
            have h15 := UInt8.toNat_lt ((vG la n).getD 15 0)
            have HA := Lib.hid (u8_and_one ((vG la n).getD 15 0))
            have HV15 := Lib.hid (show OwnS wr F g cp (Lib.byteCells (mvP (vG la n) 15)) from by rw [mvP_start _ HTop.out]; exact HV.out)
            have HNx : Hid (vG la (n + 1) = shG (vG la n)) := Lib.hid rfl
            clear HV
            generalize vG la n = v at *
            generalize hx15 : v.getD 15 0 = x15 at *
            have HX15 := Lib.hid hx15
            clear hx15
            go_wp2_with fail
            rw [HA.out]
            clear c15 HA
            have hb' := hb
            go_loopw [10] (fun iv wr => ∃ i : Nat, i ≤ 15 ∧ iv = .int .i64 (i : Int) ∧ wr.heap[O]? = some (.cells (bcells (oG la lb (n + 1))) 5) ∧ OwnS wr F g cp (Lib.byteCells (mvP v i)) ∧ Below w.heap.size w wr) (fun iv _ => (intOf iv).toNat)
            case atStart => exact ⟨15, by omega, rfl, HO.out, HV15.out, hb'⟩
            case round =>
              clear HO HV15 hb' hb
              obtain ⟨i, hi, rfl, ho, hv, hb⟩ := hrel
              have HO := Lib.hid ho; have HV := Lib.hid hv
              clear ho hv
              have HSL := Lib.hid (mvP_length v i)
              by_cases hlt2 : 0 < i
              · have hd3 : decide ((0 : Int) < (i : Int)) = true := by simp; omega
                have ci : wr.cell? ⟨g, i, none⟩ = some (.int .u8 ((v.getD i 0).toNat : Int)) := by rw [← mvP_at v i i (Nat.le_refl _) (by omega)]; exact ownS_at HV.out i (by rw [HSL.out]; omega)
                have cj : wr.cell? ⟨g, i - 1, none⟩ = some (.int .u8 ((v.getD (i - 1) 0).toNat : Int)) := by rw [← mvP_at v i (i - 1) (by omega) (by omega)]; exact ownS_at HV.out (i - 1) (by rw [HSL.out]; omega)
                have HSet := Lib.hid (mvP_succ v i hlt2 hi)
                have hw1 := sh_walk (v.getD i 0) (v.getD (i - 1) 0)
                have hw2 := sh_walk2 (v.getD i 0) (v.getD (i - 1) 0)
                have HCi := Lib.hid (show (Lib.byteCells (mvP v i))[i]? = some (.int .u8 ((v.getD i 0).toNat : Int)) from by
                  rw [← mvP_at v i i (Nat.le_refl _) (by omega)]; exact bcs_at _ i (by rw [HSL.out]; omega))
                generalize shB (v.getD i 0) (v.getD (i - 1) 0) = z at *
                generalize v.getD i 0 = x at *
                generalize v.getD (i - 1) 0 = y at *
                have e1 : IntKind.i64.wrap ((i : Int) - 1) = (i : Int) - 1 := IntWalk.i64_in _ (by omega)
                have e2 : ((i : Int) - 1).toNat = i - 1 := by omega
                have e3 : (0 : Int) ≤ (i : Int) - 1 := by omega
                have e4 : (i : Int) - 1 < 16 := by omega
                have e5 : (i : Int) < 16 := by omega
                have HW1 := Lib.hid hw1; have HW2 := Lib.hid hw2
                clear hw1 hw2
                go_wp2_with fail
                have q1 := cell_regrown ci
                have q2 := cell_regrown cj
                refine wp_region_reads_tail 15 (by kernel_rfl) (by kernel_rfl) ?_
                simp only [List.take_succ_cons, List.take_zero, List.drop_succ_cons, List.drop_zero]
                repeat (first | go_big_quiet_step (fail) | quiet_step (fail))
                refine wpQuiet_nil ?_
                intro Y hY
                have hlO := blk_lt HO.out
                have HO2 := Lib.hid (blk_below hY hlO HO.out)
                have HV2 := Lib.hid (HV.out.below2 hY)
                have hb2 : Below w.heap.size w Y := hb.trans (hY.mono hb.size)
                have hjl : i < (Lib.byteCells (mvP v i)).length := by rw [Lib.byteCells_length, HSL.out]; omega
                have cy := HV2.out.cells i _ HCi.out
                have fy := (HV2.out.room i (Nat.lt_of_lt_of_le hjl HV2.out.le)).2
                have HPut := Lib.hid (HV2.out.put i hjl (.int .u8 (z.toNat : Int)))
                rw [Lib.byteCells, ← List.map_set (f := fun b : UInt8 => Value.int .u8 (b.toNat : Int)), HSet.out] at HPut
                clear HO HV q1 q2 ci cj hY hb hlO
                first | rw [HW1.out] | rw [HW2.out] | skip
                go_wp2_with fail
                go_roundw
                case rel => exact ⟨i - 1, by omega, by congr 1; omega, by rw [heap_setCell_other _ _ _ _ (by simp <;> omega)]; exact HO2.out, HPut.out, hb2.setCell (by simp <;> omega) _⟩
                case measure => simp [intOf]; omega
              · have hd3 : decide ((0 : Int) < (i : Int)) = false := by simp; omega
                obtain rfl : i = 0 := by omega
                have c0 : wr.cell? ⟨g, 0, none⟩ = some (.int .u8 ((v.getD 0 0).toNat : Int)) := by rw [← mvP_at v 0 0 (Nat.le_refl _) (by omega)]; exact ownS_at HV.out 0 (by rw [HSL.out]; omega)
                have h0l : 0 < (Lib.byteCells (mvP v 0)).length := by rw [Lib.byteCells_length, HSL.out]; omega
                have f0 := (HV.out.room 0 (Nat.lt_of_lt_of_le h0l HV.out.le)).2
                have x0 := UInt8.toNat_lt (v.getD 0 0)
                have P1 := HV.out.put 0 h0l (.int .u8 ((UInt8.ofNat ((v.getD 0 0).toNat / 2)).toNat : Int))
                rw [Lib.byteCells, ← List.map_set (f := fun b : UInt8 => Value.int .u8 (b.toNat : Int))] at P1
                have e0 : ((UInt8.ofNat ((v.getD 0 0).toNat / 2)).toNat : Int) = ((v.getD 0 0).toNat : Int) / 2 := by simp only [UInt8.toNat_ofNat']; omega
                rw [e0] at P1
                have r1 : (wr.setCell ⟨g, 0, none⟩ (.int .u8 (((v.getD 0 0).toNat : Int) / 2))).heap[O]? = some (.cells (bcells (oG la lb (n + 1))) 5) := by rw [heap_setCell_other _ _ _ _ (by simp <;> omega)]; exact HO.out
                have hb1 : Below w.heap.size w (wr.setCell ⟨g, 0, none⟩ (.int .u8 (((v.getD 0 0).toNat : Int) / 2))) := hb.setCell (by simp <;> omega) _
                have HP1 := Lib.hid P1
                have HR1 := Lib.hid r1
                clear P1 r1
                by_cases hodd : x15.toNat % 2 = 1
                · have hd4 : (((x15.toNat % 2 : Nat) : Int) == 1) = true := by rw [hodd]; rfl
                  have hd5 : ((x15.toNat : Int) % 2 == 1) = true := by simp; omega
                  have h0l1 : 0 < (Lib.byteCells ((mvP v 0).set 0 (UInt8.ofNat ((v.getD 0 0).toNat / 2)))).length := by rw [Lib.byteCells_length, List.length_set, HSL.out]; omega
                  have c1 : (wr.setCell ⟨g, 0, none⟩ (.int .u8 (((v.getD 0 0).toNat : Int) / 2))).cell? ⟨g, 0, none⟩ = some (.int .u8 (((v.getD 0 0).toNat : Int) / 2)) := by
                    have hh := HP1.out.cells 0 _ (by rw [show (List.map (fun b : UInt8 => Value.int .u8 (b.toNat : Int)) ((mvP v 0).set 0 (UInt8.ofNat ((v.getD 0 0).toNat / 2)))) = Lib.byteCells ((mvP v 0).set 0 (UInt8.ofNat ((v.getD 0 0).toNat / 2))) from rfl, bcs_at _ 0 (by rw [List.length_set, HSL.out]; omega), set_getD _ _ _ _ (by rw [HSL.out]; omega), if_pos rfl])
                    rw [e0] at hh
                    exact hh
                  have f1 := (HP1.out.room 0 (Nat.lt_of_lt_of_le h0l1 HP1.out.le)).2
                  have P2 := HP1.out.put 0 h0l1 (.int .u8 (((UInt8.ofNat ((v.getD 0 0).toNat / 2)) ^^^ 0xe1).toNat : Int))
                  rw [← List.map_set (f := fun b : UInt8 => Value.int .u8 (b.toNat : Int)), List.set_set, HE.out, if_pos hodd] at P2
                  have ex := au8x (UInt8.ofNat ((v.getD 0 0).toNat / 2)) 0xe1
                  rw [e0, show (((0xe1 : UInt8).toNat : Nat) : Int) = 225 from rfl] at ex
                  have r2 : ((wr.setCell ⟨g, 0, none⟩ (.int .u8 (((v.getD 0 0).toNat : Int) / 2))).setCell ⟨g, 0, none⟩ (.int .u8 (((UInt8.ofNat ((v.getD 0 0).toNat / 2)) ^^^ 0xe1).toNat : Int))).heap[O]? = some (.cells (bcells (oG la lb (n + 1))) 5) := by rw [heap_setCell_other _ _ _ _ (by simp <;> omega)]; exact HR1.out
                  have hb2 : Below w.heap.size w ((wr.setCell ⟨g, 0, none⟩ (.int .u8 (((v.getD 0 0).toNat : Int) / 2))).setCell ⟨g, 0, none⟩ (.int .u8 (((UInt8.ofNat ((v.getD 0 0).toNat / 2)) ^^^ 0xe1).toNat : Int))) := hb1.setCell (by simp <;> omega) _
                  have HP2 := Lib.hid P2; have HR2 := Lib.hid r2
                  clear P2 r2 HE e0
                  generalize (((UInt8.ofNat ((v.getD 0 0).toNat / 2)) ^^^ 0xe1).toNat : Int) = zz at *
                  generalize ((v.getD 0 0).toNat : Int) = y0 at *
                  go_wp2_with fail
                  go_roundw
                  case rel => exact ⟨n + 1, by omega, by go_num, HR2.out, by rw [HNx.out]; exact HP2.out, hb2⟩
                  case measure => simp [intOf]; omega
                · have hd4 : (((x15.toNat % 2 : Nat) : Int) == 1) = false := by rw [show x15.toNat % 2 = 0 by omega]; rfl
                  have hd5 : ((x15.toNat : Int) % 2 == 1) = false := by simp; omega
                  have P2 := HP1.out
                  rw [HE0.out v HTop.out (by rw [HX15.out]; exact hodd)] at P2
                  have HP2 := Lib.hid P2
                  clear P2 HE e0
                  generalize ((v.getD 0 0).toNat : Int) = y0 at *
                  go_wp2_with fail
                  go_roundw
                  case rel => exact ⟨n + 1, by omega, by go_num, HR1.out, by rw [HNx.out]; exact HP2.out, hb1⟩
                  case measure => simp [intOf]; omega
    · have hd : decide ((n : Int) < 128) = false := by simp; omega
      obtain rfl : n = 128 := by omega
      go_wp2_with fail
      go_ret
      exact ⟨⟨O, rfl, hOw, HO.out⟩, hb⟩
end Go.Proofs.YtoejkiblampecaaDoor
