/- ShaCut: for every text of at most 10000 bytes, however it is cut at two places, the digests of a hash that has taken up the three pieces are those of the text; the chapter's two examples hold. No condition; the two tables of package sha lie as the program's text lays them. -/
import Derived.Test.YtbaalgbkpgfhcaaDoorHash
import Derived.Test.YtbaalgbkpgfhcaaDoorFrame
import Derived.Test.YtbaalgbkpgfhcaaDoorCards
import Derived.Test.YtbaalgbkpgfhcaaDoorTie
import Derived.SevenTiedAt
namespace Go.Proofs.YtbaalgbkpgfhcaaDoor
open Go.ChangeShapes Go.WideShapes Go.ChangeAt Go.WideMaps Go.WideElems Go.RowKit Go.Sort
open Go.ChangeMaps (open_string shut_string)

def pc3 (p q r : ByteArray) : Nat → ByteArray | 0 => p | 1 => q | _ => r
def cat3 (p q r : ByteArray) : Nat → List UInt8
  | 0 => []
  | 1 => p.data.toList
  | 2 => p.data.toList ++ q.data.toList
  | _ => p.data.toList ++ q.data.toList ++ r.data.toList
theorem cat3_succ (p q r : ByteArray) (i : Nat) (h : i < 3) : cat3 p q r (i + 1) = cat3 p q r i ++ (pc3 p q r i).data.toList := by
  rcases (by omega : i = 0 ∨ i = 1 ∨ i = 2) with rfl | rfl | rfl <;> simp [cat3, pc3]
theorem cat3_le (p q r : ByteArray) (n : Nat) (h : p.size + q.size + r.size = n) (i : Nat) (hi : i < 3) : (cat3 p q r i).length ≤ n ∧ (pc3 p q r i).size ≤ n := by
  simp only [Lib.size_eq] at h
  rcases (by omega : i = 0 ∨ i = 1 ∨ i = 2) with rfl | rfl | rfl <;> simp only [cat3, pc3, Lib.size_eq, List.length_append, List.length_nil] <;> omega
theorem cut_mod (a L : Int) (h : 0 < L) : -L < a.tmod L ∧ a.tmod L < L := by
  constructor
  · have := Int.tmod_lt_of_pos (-a) h
    rw [Int.neg_tmod] at this
    omega
  · exact Int.tmod_lt_of_pos a h

theorem cut_pieces (s : ByteArray) (lo hi : Nat) (h1 : lo ≤ hi) (h2 : hi ≤ s.size) :
    cat3 (s.extract 0 lo) (s.extract lo hi) (s.extract hi s.size) 3 = s.data.toList ∧ (s.extract 0 lo).size + (s.extract lo hi).size + (s.extract hi s.size).size = s.size := by
  constructor
  · simp only [cat3, Lib.extract_data, List.drop_zero, Nat.sub_zero]
    rw [List.take_of_length_le (l := List.drop hi s.data.toList) (by simp)]
    have e1 : List.take lo s.data.toList ++ List.take (hi - lo) (List.drop lo s.data.toList) = List.take hi s.data.toList := by
      rw [← List.take_add, show lo + (hi - lo) = hi by omega]
    rw [e1, List.take_append_drop]
  · simp
    omega

set_option maxHeartbeats 2000000 in
theorem shaCut_any (s : ByteArray) (a b : Int) (w : World) (hs : s.size ≤ maxLen) (hK : TabK w kf) (hH : TabH w hf) : Calls Tryd.prog 6 #[.string s, .int .i64 a, .int .i64 b] w fun e w' => e = .returned (.bool true) ∧ Below w.heap.size w w' := by
  unfold maxLen at hs
  by_cases hbig : 10000 < s.size
  · have hd : decide ((10000 : Int) < (s.size : Int)) = true := by simp; omega
    go_enter Tryd.func6, Tryd.ntmps6
    go_wp2_with fail
    refine (awake_any _ hK hH).mono ?_
    rintro e W1 ⟨rfl, hb1⟩
    go_wp2_with fail
    go_ret
    exact ⟨rfl, hb1⟩
  · have hd : decide ((10000 : Int) < (s.size : Int)) = false := by simp; omega
    have hs5 : s.size ≤ 10000 := by omega
    by_cases hz : s.size = 0
    · have hdz : (((s.size : Nat) : Int) == 0) = true := by simp [hz]
      go_enter Tryd.func6, Tryd.ntmps6
      go_wp2_with fail
      refine (awake_any _ hK hH).mono ?_
      rintro e W1 ⟨rfl, hb1⟩
      go_wp2_with fail
      go_ret
      exact ⟨rfl, hb1⟩
    · have hdz : (((s.size : Nat) : Int) == 0) = false := by simp [hz]
      have hpos : (0 : Int) < (s.size : Int) := by omega
      obtain ⟨ma1, ma2⟩ := cut_mod a s.size hpos
      obtain ⟨mb1, mb2⟩ := cut_mod b s.size hpos
      have hlt := hK.lt
      go_enter Tryd.func6, Tryd.ntmps6
      go_wp2_with fail
      have em : ∀ x : Int, ∃ m : Nat, (x + (s.size : Int)) % (s.size : Int) = (m : Int) ∧ m < s.size := fun x => by
        have h0 := Int.emod_nonneg (x + (s.size : Int)) (by omega : (s.size : Int) ≠ 0)
        have h1 := Int.emod_lt_of_pos (x + (s.size : Int)) hpos
        exact ⟨((x + (s.size : Int)) % (s.size : Int)).toNat, by omega, by omega⟩
      obtain ⟨m, hm, hmL⟩ := em (a.tmod s.size)
      obtain ⟨n, hn, hnL⟩ := em (b.tmod s.size)
      rw [hm, hn]
      clear hm hn em ma1 ma2 mb1 mb2 hdz hd hbig hz
      refine (new32 kf hf _ hH).mono ?_
      rintro e W1 ⟨b1, rfl, hl1, hh1, hb1⟩
      have hK1 := hK.below hb1 hK.lt; have hH1 := hH.below hb1 hH.lt
      go_wp2_with fail
      refine (new64 kf hf _ hH1).mono ?_
      rintro e W2 ⟨b2, rfl, hl2, hh2, hb2⟩
      have hK2 := hK1.below hb2 hK1.lt; have hH2 := hH1.below hb2 hH1.lt
      have hh1' := hh1.kept (hb2.block b1 hh1.lt)
      have hne : b1 ≠ b2 := by have := hh1.lt; omega
      have hB2 : Below w.heap.size w W2 := hb1.trans (hb2.mono hb1.size)
      have hz2 : w.heap.size ≤ W2.heap.size := Nat.le_trans hb1.size hb2.size
      have hl2' : w.heap.size ≤ b2 := Nat.le_trans hb1.size hl2
      clear hK hH hK1 hH1 hb1 hb2 hh1
      go_wp2_with fail
      have HV := Lib.hid hh1'; have HV2 := Lib.hid hh2
      clear hh1' hh2
      by_cases hnm : (n : Int) < (m : Int)
      · have hmn : ¬ (m : Int) < (n : Int) := by omega
        refine wp_region_reads_tail 18 (by kernel_rfl) (by kernel_rfl) ?_
        simp only [List.take_succ_cons, List.take_zero, List.drop_succ_cons, List.drop_zero]
        repeat (first | go_big_quiet_step (fail) | quiet_step (fail))
        refine wpQuiet_nil ?_
        intro W3 hb3
        obtain ⟨hp1, hp2⟩ := cut_pieces s n m (by omega) (by omega)
        have HP1 := Lib.hid hp1; have HP2 := Lib.hid hp2
        clear hp1 hp2 hmn hnm
        have hG := blk_new W3 (.cells #[.string (s.extract 0 n), .string (s.extract n m), .string (s.extract m s.size)] 9)
        have hB3 : Below W2.heap.size W2 (W3.alloc (.cells #[.string (s.extract 0 n), .string (s.extract n m), .string (s.extract m s.size)] 9)) := hb3.alloc hb3.size _
        have hz3 := hb3.size
        go_wp2_with fail
        generalize s.extract 0 n = p at *
        generalize s.extract n m = q at *
        generalize s.extract m s.size = r at *
        generalize (W3.alloc _) = W4 at *
        generalize W3.heap.size = G at *
        have HG := Lib.hid hG
        have hh1 := HV.out.kept (hB3.block b1 HV.out.lt)
        have hh2 := HV2.out.kept (hB3.block b2 HV2.out.lt)
        have hgb1 : G ≠ b1 := by have := HV.out.lt; omega
        have hgb2 : G ≠ b2 := by have := HV2.out.lt; omega
        have hgw : w.heap.size ≤ G := by omega
        have hK4 := hK2.below hB3 hK2.lt; have hH4 := hH2.below hB3 hH2.lt
        have hB4 : Below w.heap.size w W4 := hB2.trans (hB3.mono hz2)
        have hz4 : w.heap.size ≤ W4.heap.size := Nat.le_trans hz2 hB3.size
        clear HV HV2 hG hB3 hb3 hK2 hH2 hB2 hz2 hz3
        go_loopw [14] (fun i wr => ∃ k : Nat, k ≤ 3 ∧ i = .int .i64 k ∧ Hash32 wr kf hf b1 (cat3 p q r k) ∧ Hash64 wr kf hf b2 (cat3 p q r k) ∧ wr.heap[G]? = some (.cells #[.string p, .string q, .string r] 9) ∧ TabK wr kf ∧ TabH wr hf ∧ Below w.heap.size w wr ∧ w.heap.size ≤ wr.heap.size) (fun i _ => 3 - (intOf i).toNat)
        case atStart => exact ⟨0, by omega, rfl, hh1, hh2, HG.out, hK4, hH4, hB4, hz4⟩
        case round =>
          clear hh1 hh2 HG hK4 hH4 hB4 hz4
          obtain ⟨k, hk, rfl, h1, h2, hg, tk, th, hb, hz⟩ := hrel
          by_cases hk3 : k < 3
          · have hd : decide ((k : Int) < 3) = true := by simp; omega
            have ck : wr.cell? ⟨G, k, none⟩ = some (.string (pc3 p q r k)) := by
              rw [cell_of_row wr _ _ _ _ _ hg]
              rcases (by omega : k = 0 ∨ k = 1 ∨ k = 2) with rfl | rfl | rfl <;> rfl
            have HS := Lib.hid (cat3_succ p q r k hk3)
            obtain ⟨le1, le2⟩ := cat3_le p q r s.size HP2.out k hk3
            have HG := Lib.hid hg
            clear hg
            generalize pc3 p q r k = x at *
            go_wp2_with fail
            refine (hashWrite32 kf hf b1 _ x wr h1 tk (by omega) (by omega) (by omega)).mono ?_
            rintro e W5 ⟨rfl, h5, but5⟩
            have h2' := h2.kept (but5.block b2 h2.lt (Ne.symm hne))
            have hg5 : W5.heap[G]? = _ := (but5.block G (blk_lt HG.out) hgb1).trans HG.out
            have ck5 : W5.cell? ⟨G, k, none⟩ = some (.string x) := (World.cell?_of_block (a := ⟨G, k, none⟩) (but5.block G (blk_lt HG.out) hgb1)).trans ck
            have tk5 : TabK W5 kf := fun t ht => (World.cell?_of_block (a := ⟨1, t, none⟩) (but5.block 1 tk.lt (by omega))).trans (tk t ht)
            have th5 : TabH W5 hf := fun t ht => (World.cell?_of_block (a := ⟨0, t, none⟩) (but5.block 0 th.lt (by omega))).trans (th t ht)
            have hb5 : Below w.heap.size w W5 := hb.trans (but5.below hl1 hz)
            have hz5 : w.heap.size ≤ W5.heap.size := Nat.le_trans hz but5.size
            replace HG := Lib.hid hg5
            clear h1 h2 ck tk th hb hz but5 hg5
            go_wp2_with fail
            refine (hashWrite64 kf hf b2 _ x W5 h2' tk5 (by omega) (by omega) (by omega)).mono ?_
            rintro e W6 ⟨rfl, h6, but6⟩
            have h5' := h5.kept (but6.block b1 h5.lt hne)
            have hg6 : W6.heap[G]? = _ := (but6.block G (blk_lt HG.out) hgb2).trans HG.out
            have tk6 : TabK W6 kf := fun t ht => (World.cell?_of_block (a := ⟨1, t, none⟩) (but6.block 1 tk5.lt (by omega))).trans (tk5 t ht)
            have th6 : TabH W6 hf := fun t ht => (World.cell?_of_block (a := ⟨0, t, none⟩) (but6.block 0 th5.lt (by omega))).trans (th5 t ht)
            have hb6 : Below w.heap.size w W6 := hb5.trans (but6.below hl2' hz5)
            have hz6 : w.heap.size ≤ W6.heap.size := Nat.le_trans hz5 but6.size
            replace HG := Lib.hid hg6
            rw [← HS.out] at h5' h6
            clear h5 h2' ck5 tk5 th5 hb5 hz5 but6 hg6
            go_wp2_with fail
            go_roundw
            case rel => exact ⟨k + 1, by omega, by go_num, h5', h6, HG.out, tk6, th6, hb6, hz6⟩
            case measure => simp [intOf]; omega
          · have hd : decide ((k : Int) < 3) = false := by simp; omega
            obtain rfl : k = 3 := by omega
            rw [show cat3 p q r 3 = s.data.toList from HP1.out] at h1 h2
            have sum1 := Lib.hid (hashSum32 kf hf b1 s.data.toList wr h1 tk (by rw [← Lib.size_eq]; omega))
            generalize hx1 : (⟨(sha256L kf hf s.data.toList).toArray⟩ : ByteArray) = x at *
            have HX1 := Lib.hid hx1
            clear hx1
            go_wp2_with fail
            refine sum1.out.mono ?_
            rintro e W5 ⟨rfl, hb5⟩
            have tk5 := tk.below hb5 tk.lt; have th5 := th.below hb5 th.lt
            have h2' := h2.kept (hb5.block b2 h2.lt)
            have hbb5 : Below w.heap.size w W5 := hb.trans (hb5.mono hz)
            have hz5 : w.heap.size ≤ W5.heap.size := Nat.le_trans hz hb5.size
            have sum2 := sum256_any kf hf s W5 tk5 th5 (by omega)
            rw [HX1.out] at sum2
            have Sum2 := Lib.hid sum2
            clear tk th h1 h2 hb hz hb5 sum1 sum2
            go_wp2_with fail
            refine Sum2.out.mono ?_
            rintro e W6 ⟨rfl, hb6⟩
            have tk6 := tk5.below hb6 tk5.lt; have th6 := th5.below hb6 th5.lt
            have h2'' := h2'.kept (hb6.block b2 h2'.lt)
            have hbb6 : Below w.heap.size w W6 := hbb5.trans (hb6.mono hz5)
            have hz6 : w.heap.size ≤ W6.heap.size := Nat.le_trans hz5 hb6.size
            have sum3 := Lib.hid (hashSum64 kf hf b2 s.data.toList W6 h2'' tk6 (by rw [← Lib.size_eq]; omega))
            generalize hx2 : (⟨(sha512L kf hf s.data.toList).toArray⟩ : ByteArray) = y at *
            have HX2 := Lib.hid hx2
            clear hx2 tk5 th5 h2' hbb5 hz5 hb6 Sum2
            go_wp2_with fail
            refine sum3.out.mono ?_
            rintro e W7 ⟨rfl, hb7⟩
            have tk7 := tk6.below hb7 tk6.lt; have th7 := th6.below hb7 th6.lt
            have hbb7 : Below w.heap.size w W7 := hbb6.trans (hb7.mono hz6)
            have hz7 : w.heap.size ≤ W7.heap.size := Nat.le_trans hz6 hb7.size
            have sum4 := sum512_any kf hf s W7 tk7 th7 (by omega)
            rw [HX2.out] at sum4
            have Sum4 := Lib.hid sum4
            clear tk6 th6 h2'' hbb6 hz6 hb7 sum3 sum4
            go_wp2_with fail
            refine Sum4.out.mono ?_
            rintro e W8 ⟨rfl, hb8⟩
            have tk8 := tk7.below hb8 tk7.lt; have th8 := th7.below hb8 th7.lt
            have hbb8 : Below w.heap.size w W8 := hbb7.trans (hb8.mono hz7)
            have hz8 : w.heap.size ≤ W8.heap.size := Nat.le_trans hz7 hb8.size
            clear tk7 th7 hbb7 hz7 hb8 Sum4
            go_wp2_with fail
            refine (awake_any _ tk8 th8).mono ?_
            rintro e W9 ⟨rfl, hb9⟩
            go_wp2_with fail
            go_ret
            exact ⟨rfl, hbb8.trans (hb9.mono hz8)⟩
      · by_cases hmn : (m : Int) < (n : Int)
        · skip
          refine wp_region_reads_tail 18 (by kernel_rfl) (by kernel_rfl) ?_
          simp only [List.take_succ_cons, List.take_zero, List.drop_succ_cons, List.drop_zero]
          repeat (first | go_big_quiet_step (fail) | quiet_step (fail))
          refine wpQuiet_nil ?_
          intro W3 hb3
          obtain ⟨hp1, hp2⟩ := cut_pieces s m n (by omega) (by omega)
          have HP1 := Lib.hid hp1; have HP2 := Lib.hid hp2
          clear hp1 hp2 hmn hnm
          have hG := blk_new W3 (.cells #[.string (s.extract 0 m), .string (s.extract m n), .string (s.extract n s.size)] 9)
          have hB3 : Below W2.heap.size W2 (W3.alloc (.cells #[.string (s.extract 0 m), .string (s.extract m n), .string (s.extract n s.size)] 9)) := hb3.alloc hb3.size _
          have hz3 := hb3.size
          go_wp2_with fail
          generalize s.extract 0 m = p at *
          generalize s.extract m n = q at *
          generalize s.extract n s.size = r at *
          generalize (W3.alloc _) = W4 at *
          generalize W3.heap.size = G at *
          have HG := Lib.hid hG
          have hh1 := HV.out.kept (hB3.block b1 HV.out.lt)
          have hh2 := HV2.out.kept (hB3.block b2 HV2.out.lt)
          have hgb1 : G ≠ b1 := by have := HV.out.lt; omega
          have hgb2 : G ≠ b2 := by have := HV2.out.lt; omega
          have hgw : w.heap.size ≤ G := by omega
          have hK4 := hK2.below hB3 hK2.lt; have hH4 := hH2.below hB3 hH2.lt
          have hB4 : Below w.heap.size w W4 := hB2.trans (hB3.mono hz2)
          have hz4 : w.heap.size ≤ W4.heap.size := Nat.le_trans hz2 hB3.size
          clear HV HV2 hG hB3 hb3 hK2 hH2 hB2 hz2 hz3
          go_loopw [14] (fun i wr => ∃ k : Nat, k ≤ 3 ∧ i = .int .i64 k ∧ Hash32 wr kf hf b1 (cat3 p q r k) ∧ Hash64 wr kf hf b2 (cat3 p q r k) ∧ wr.heap[G]? = some (.cells #[.string p, .string q, .string r] 9) ∧ TabK wr kf ∧ TabH wr hf ∧ Below w.heap.size w wr ∧ w.heap.size ≤ wr.heap.size) (fun i _ => 3 - (intOf i).toNat)
          case atStart => exact ⟨0, by omega, rfl, hh1, hh2, HG.out, hK4, hH4, hB4, hz4⟩
          case round =>
            clear hh1 hh2 HG hK4 hH4 hB4 hz4
            obtain ⟨k, hk, rfl, h1, h2, hg, tk, th, hb, hz⟩ := hrel
            by_cases hk3 : k < 3
            · have hd : decide ((k : Int) < 3) = true := by simp; omega
              have ck : wr.cell? ⟨G, k, none⟩ = some (.string (pc3 p q r k)) := by
                rw [cell_of_row wr _ _ _ _ _ hg]
                rcases (by omega : k = 0 ∨ k = 1 ∨ k = 2) with rfl | rfl | rfl <;> rfl
              have HS := Lib.hid (cat3_succ p q r k hk3)
              obtain ⟨le1, le2⟩ := cat3_le p q r s.size HP2.out k hk3
              have HG := Lib.hid hg
              clear hg
              generalize pc3 p q r k = x at *
              go_wp2_with fail
              refine (hashWrite32 kf hf b1 _ x wr h1 tk (by omega) (by omega) (by omega)).mono ?_
              rintro e W5 ⟨rfl, h5, but5⟩
              have h2' := h2.kept (but5.block b2 h2.lt (Ne.symm hne))
              have hg5 : W5.heap[G]? = _ := (but5.block G (blk_lt HG.out) hgb1).trans HG.out
              have ck5 : W5.cell? ⟨G, k, none⟩ = some (.string x) := (World.cell?_of_block (a := ⟨G, k, none⟩) (but5.block G (blk_lt HG.out) hgb1)).trans ck
              have tk5 : TabK W5 kf := fun t ht => (World.cell?_of_block (a := ⟨1, t, none⟩) (but5.block 1 tk.lt (by omega))).trans (tk t ht)
              have th5 : TabH W5 hf := fun t ht => (World.cell?_of_block (a := ⟨0, t, none⟩) (but5.block 0 th.lt (by omega))).trans (th t ht)
              have hb5 : Below w.heap.size w W5 := hb.trans (but5.below hl1 hz)
              have hz5 : w.heap.size ≤ W5.heap.size := Nat.le_trans hz but5.size
              replace HG := Lib.hid hg5
              clear h1 h2 ck tk th hb hz but5 hg5
              go_wp2_with fail
              refine (hashWrite64 kf hf b2 _ x W5 h2' tk5 (by omega) (by omega) (by omega)).mono ?_
              rintro e W6 ⟨rfl, h6, but6⟩
              have h5' := h5.kept (but6.block b1 h5.lt hne)
              have hg6 : W6.heap[G]? = _ := (but6.block G (blk_lt HG.out) hgb2).trans HG.out
              have tk6 : TabK W6 kf := fun t ht => (World.cell?_of_block (a := ⟨1, t, none⟩) (but6.block 1 tk5.lt (by omega))).trans (tk5 t ht)
              have th6 : TabH W6 hf := fun t ht => (World.cell?_of_block (a := ⟨0, t, none⟩) (but6.block 0 th5.lt (by omega))).trans (th5 t ht)
              have hb6 : Below w.heap.size w W6 := hb5.trans (but6.below hl2' hz5)
              have hz6 : w.heap.size ≤ W6.heap.size := Nat.le_trans hz5 but6.size
              replace HG := Lib.hid hg6
              rw [← HS.out] at h5' h6
              clear h5 h2' ck5 tk5 th5 hb5 hz5 but6 hg6
              go_wp2_with fail
              go_roundw
              case rel => exact ⟨k + 1, by omega, by go_num, h5', h6, HG.out, tk6, th6, hb6, hz6⟩
              case measure => simp [intOf]; omega
            · have hd : decide ((k : Int) < 3) = false := by simp; omega
              obtain rfl : k = 3 := by omega
              rw [show cat3 p q r 3 = s.data.toList from HP1.out] at h1 h2
              have sum1 := Lib.hid (hashSum32 kf hf b1 s.data.toList wr h1 tk (by rw [← Lib.size_eq]; omega))
              generalize hx1 : (⟨(sha256L kf hf s.data.toList).toArray⟩ : ByteArray) = x at *
              have HX1 := Lib.hid hx1
              clear hx1
              go_wp2_with fail
              refine sum1.out.mono ?_
              rintro e W5 ⟨rfl, hb5⟩
              have tk5 := tk.below hb5 tk.lt; have th5 := th.below hb5 th.lt
              have h2' := h2.kept (hb5.block b2 h2.lt)
              have hbb5 : Below w.heap.size w W5 := hb.trans (hb5.mono hz)
              have hz5 : w.heap.size ≤ W5.heap.size := Nat.le_trans hz hb5.size
              have sum2 := sum256_any kf hf s W5 tk5 th5 (by omega)
              rw [HX1.out] at sum2
              have Sum2 := Lib.hid sum2
              clear tk th h1 h2 hb hz hb5 sum1 sum2
              go_wp2_with fail
              refine Sum2.out.mono ?_
              rintro e W6 ⟨rfl, hb6⟩
              have tk6 := tk5.below hb6 tk5.lt; have th6 := th5.below hb6 th5.lt
              have h2'' := h2'.kept (hb6.block b2 h2'.lt)
              have hbb6 : Below w.heap.size w W6 := hbb5.trans (hb6.mono hz5)
              have hz6 : w.heap.size ≤ W6.heap.size := Nat.le_trans hz5 hb6.size
              have sum3 := Lib.hid (hashSum64 kf hf b2 s.data.toList W6 h2'' tk6 (by rw [← Lib.size_eq]; omega))
              generalize hx2 : (⟨(sha512L kf hf s.data.toList).toArray⟩ : ByteArray) = y at *
              have HX2 := Lib.hid hx2
              clear hx2 tk5 th5 h2' hbb5 hz5 hb6 Sum2
              go_wp2_with fail
              refine sum3.out.mono ?_
              rintro e W7 ⟨rfl, hb7⟩
              have tk7 := tk6.below hb7 tk6.lt; have th7 := th6.below hb7 th6.lt
              have hbb7 : Below w.heap.size w W7 := hbb6.trans (hb7.mono hz6)
              have hz7 : w.heap.size ≤ W7.heap.size := Nat.le_trans hz6 hb7.size
              have sum4 := sum512_any kf hf s W7 tk7 th7 (by omega)
              rw [HX2.out] at sum4
              have Sum4 := Lib.hid sum4
              clear tk6 th6 h2'' hbb6 hz6 hb7 sum3 sum4
              go_wp2_with fail
              refine Sum4.out.mono ?_
              rintro e W8 ⟨rfl, hb8⟩
              have tk8 := tk7.below hb8 tk7.lt; have th8 := th7.below hb8 th7.lt
              have hbb8 : Below w.heap.size w W8 := hbb7.trans (hb8.mono hz7)
              have hz8 : w.heap.size ≤ W8.heap.size := Nat.le_trans hz7 hb8.size
              clear tk7 th7 hbb7 hz7 hb8 Sum4
              go_wp2_with fail
              refine (awake_any _ tk8 th8).mono ?_
              rintro e W9 ⟨rfl, hb9⟩
              go_wp2_with fail
              go_ret
              exact ⟨rfl, hbb8.trans (hb9.mono hz8)⟩
        · obtain rfl : m = n := by omega
          clear hnm hmn
          refine wp_region_reads_tail 18 (by kernel_rfl) (by kernel_rfl) ?_
          simp only [List.take_succ_cons, List.take_zero, List.drop_succ_cons, List.drop_zero]
          repeat (first | go_big_quiet_step (fail) | quiet_step (fail))
          refine wpQuiet_nil ?_
          intro W3 hb3
          obtain ⟨hp1, hp2⟩ := cut_pieces s m m (by omega) (by omega)
          rw [show s.extract m m = ByteArray.empty from by simp] at hp1 hp2
          have HP1 := Lib.hid hp1; have HP2 := Lib.hid hp2
          clear hp1 hp2
          have hG := blk_new W3 (.cells #[.string (s.extract 0 m), .string (ByteArray.empty), .string (s.extract m s.size)] 9)
          have hB3 : Below W2.heap.size W2 (W3.alloc (.cells #[.string (s.extract 0 m), .string (ByteArray.empty), .string (s.extract m s.size)] 9)) := hb3.alloc hb3.size _
          have hz3 := hb3.size
          go_wp2_with fail
          generalize s.extract 0 m = p at *
          generalize ByteArray.empty = q at *
          generalize s.extract m s.size = r at *
          generalize (W3.alloc _) = W4 at *
          generalize W3.heap.size = G at *
          have HG := Lib.hid hG
          have hh1 := HV.out.kept (hB3.block b1 HV.out.lt)
          have hh2 := HV2.out.kept (hB3.block b2 HV2.out.lt)
          have hgb1 : G ≠ b1 := by have := HV.out.lt; omega
          have hgb2 : G ≠ b2 := by have := HV2.out.lt; omega
          have hgw : w.heap.size ≤ G := by omega
          have hK4 := hK2.below hB3 hK2.lt; have hH4 := hH2.below hB3 hH2.lt
          have hB4 : Below w.heap.size w W4 := hB2.trans (hB3.mono hz2)
          have hz4 : w.heap.size ≤ W4.heap.size := Nat.le_trans hz2 hB3.size
          clear HV HV2 hG hB3 hb3 hK2 hH2 hB2 hz2 hz3
          go_loopw [14] (fun i wr => ∃ k : Nat, k ≤ 3 ∧ i = .int .i64 k ∧ Hash32 wr kf hf b1 (cat3 p q r k) ∧ Hash64 wr kf hf b2 (cat3 p q r k) ∧ wr.heap[G]? = some (.cells #[.string p, .string q, .string r] 9) ∧ TabK wr kf ∧ TabH wr hf ∧ Below w.heap.size w wr ∧ w.heap.size ≤ wr.heap.size) (fun i _ => 3 - (intOf i).toNat)
          case atStart => exact ⟨0, by omega, rfl, hh1, hh2, HG.out, hK4, hH4, hB4, hz4⟩
          case round =>
            clear hh1 hh2 HG hK4 hH4 hB4 hz4
            obtain ⟨k, hk, rfl, h1, h2, hg, tk, th, hb, hz⟩ := hrel
            by_cases hk3 : k < 3
            · have hd : decide ((k : Int) < 3) = true := by simp; omega
              have ck : wr.cell? ⟨G, k, none⟩ = some (.string (pc3 p q r k)) := by
                rw [cell_of_row wr _ _ _ _ _ hg]
                rcases (by omega : k = 0 ∨ k = 1 ∨ k = 2) with rfl | rfl | rfl <;> rfl
              have HS := Lib.hid (cat3_succ p q r k hk3)
              obtain ⟨le1, le2⟩ := cat3_le p q r s.size HP2.out k hk3
              have HG := Lib.hid hg
              clear hg
              generalize pc3 p q r k = x at *
              go_wp2_with fail
              refine (hashWrite32 kf hf b1 _ x wr h1 tk (by omega) (by omega) (by omega)).mono ?_
              rintro e W5 ⟨rfl, h5, but5⟩
              have h2' := h2.kept (but5.block b2 h2.lt (Ne.symm hne))
              have hg5 : W5.heap[G]? = _ := (but5.block G (blk_lt HG.out) hgb1).trans HG.out
              have ck5 : W5.cell? ⟨G, k, none⟩ = some (.string x) := (World.cell?_of_block (a := ⟨G, k, none⟩) (but5.block G (blk_lt HG.out) hgb1)).trans ck
              have tk5 : TabK W5 kf := fun t ht => (World.cell?_of_block (a := ⟨1, t, none⟩) (but5.block 1 tk.lt (by omega))).trans (tk t ht)
              have th5 : TabH W5 hf := fun t ht => (World.cell?_of_block (a := ⟨0, t, none⟩) (but5.block 0 th.lt (by omega))).trans (th t ht)
              have hb5 : Below w.heap.size w W5 := hb.trans (but5.below hl1 hz)
              have hz5 : w.heap.size ≤ W5.heap.size := Nat.le_trans hz but5.size
              replace HG := Lib.hid hg5
              clear h1 h2 ck tk th hb hz but5 hg5
              go_wp2_with fail
              refine (hashWrite64 kf hf b2 _ x W5 h2' tk5 (by omega) (by omega) (by omega)).mono ?_
              rintro e W6 ⟨rfl, h6, but6⟩
              have h5' := h5.kept (but6.block b1 h5.lt hne)
              have hg6 : W6.heap[G]? = _ := (but6.block G (blk_lt HG.out) hgb2).trans HG.out
              have tk6 : TabK W6 kf := fun t ht => (World.cell?_of_block (a := ⟨1, t, none⟩) (but6.block 1 tk5.lt (by omega))).trans (tk5 t ht)
              have th6 : TabH W6 hf := fun t ht => (World.cell?_of_block (a := ⟨0, t, none⟩) (but6.block 0 th5.lt (by omega))).trans (th5 t ht)
              have hb6 : Below w.heap.size w W6 := hb5.trans (but6.below hl2' hz5)
              have hz6 : w.heap.size ≤ W6.heap.size := Nat.le_trans hz5 but6.size
              replace HG := Lib.hid hg6
              rw [← HS.out] at h5' h6
              clear h5 h2' ck5 tk5 th5 hb5 hz5 but6 hg6
              go_wp2_with fail
              go_roundw
              case rel => exact ⟨k + 1, by omega, by go_num, h5', h6, HG.out, tk6, th6, hb6, hz6⟩
              case measure => simp [intOf]; omega
            · have hd : decide ((k : Int) < 3) = false := by simp; omega
              obtain rfl : k = 3 := by omega
              rw [show cat3 p q r 3 = s.data.toList from HP1.out] at h1 h2
              have sum1 := Lib.hid (hashSum32 kf hf b1 s.data.toList wr h1 tk (by rw [← Lib.size_eq]; omega))
              generalize hx1 : (⟨(sha256L kf hf s.data.toList).toArray⟩ : ByteArray) = x at *
              have HX1 := Lib.hid hx1
              clear hx1
              go_wp2_with fail
              refine sum1.out.mono ?_
              rintro e W5 ⟨rfl, hb5⟩
              have tk5 := tk.below hb5 tk.lt; have th5 := th.below hb5 th.lt
              have h2' := h2.kept (hb5.block b2 h2.lt)
              have hbb5 : Below w.heap.size w W5 := hb.trans (hb5.mono hz)
              have hz5 : w.heap.size ≤ W5.heap.size := Nat.le_trans hz hb5.size
              have sum2 := sum256_any kf hf s W5 tk5 th5 (by omega)
              rw [HX1.out] at sum2
              have Sum2 := Lib.hid sum2
              clear tk th h1 h2 hb hz hb5 sum1 sum2
              go_wp2_with fail
              refine Sum2.out.mono ?_
              rintro e W6 ⟨rfl, hb6⟩
              have tk6 := tk5.below hb6 tk5.lt; have th6 := th5.below hb6 th5.lt
              have h2'' := h2'.kept (hb6.block b2 h2'.lt)
              have hbb6 : Below w.heap.size w W6 := hbb5.trans (hb6.mono hz5)
              have hz6 : w.heap.size ≤ W6.heap.size := Nat.le_trans hz5 hb6.size
              have sum3 := Lib.hid (hashSum64 kf hf b2 s.data.toList W6 h2'' tk6 (by rw [← Lib.size_eq]; omega))
              generalize hx2 : (⟨(sha512L kf hf s.data.toList).toArray⟩ : ByteArray) = y at *
              have HX2 := Lib.hid hx2
              clear hx2 tk5 th5 h2' hbb5 hz5 hb6 Sum2
              go_wp2_with fail
              refine sum3.out.mono ?_
              rintro e W7 ⟨rfl, hb7⟩
              have tk7 := tk6.below hb7 tk6.lt; have th7 := th6.below hb7 th6.lt
              have hbb7 : Below w.heap.size w W7 := hbb6.trans (hb7.mono hz6)
              have hz7 : w.heap.size ≤ W7.heap.size := Nat.le_trans hz6 hb7.size
              have sum4 := sum512_any kf hf s W7 tk7 th7 (by omega)
              rw [HX2.out] at sum4
              have Sum4 := Lib.hid sum4
              clear tk6 th6 h2'' hbb6 hz6 hb7 sum3 sum4
              go_wp2_with fail
              refine Sum4.out.mono ?_
              rintro e W8 ⟨rfl, hb8⟩
              have tk8 := tk7.below hb8 tk7.lt; have th8 := th7.below hb8 th7.lt
              have hbb8 : Below w.heap.size w W8 := hbb7.trans (hb8.mono hz7)
              have hz8 : w.heap.size ≤ W8.heap.size := Nat.le_trans hz7 hb8.size
              clear tk7 th7 hbb7 hz7 hb8 Sum4
              go_wp2_with fail
              refine (awake_any _ tk8 th8).mono ?_
              rintro e W9 ⟨rfl, hb9⟩
              go_wp2_with fail
              go_ret
              exact ⟨rfl, hbb8.trans (hb9.mono hz8)⟩
set_option maxRecDepth 100000 in
theorem shaCut_lifted (os : Os) (started : os.Started) (H : Type) (enc : TypeId × Value → H) :
    ReturnsInHanded {} Tryd.checked os 6 .any (fun w args => (Rows.shaCutSpec.pre enc Tryd.prog Tryd.f6 [] false w args ∧ laidMetH Tryd.prog laid2 w) ∧ sizedMet enc Tryd.prog Tryd.f6 (OpenSpec.ofChange Rows.shaCutSpec) false w args)
      (Rows.shaCutSpec.post enc Tryd.prog Tryd.f6 false true false false) := by
  refine returnsInHanded_of_change_and (C := Tryd.checked) (X := fun w _ => laidMetH Tryd.prog laid2 w) (fun _ _ _ hh h => h.of_heap hh) own started (by kernel_rfl) Tryd.func6
    (ChangeSpec.witness_shaped (enc := enc) (C := Tryd.checked) (os := os) (X := fun w _ => laidMetH Tryd.prog laid2 w) false (World.doorLaid Tryd.prog 400 os) #[.string ⟨#[]⟩, .int .i64 0, .int .i64 0] 8 rfl (World.shaped_of_RefB (by kernel_rfl) (by kernel_rfl)) (by kernel_rfl) (by kernel_rfl) (by kernel_rfl) (door_met os _)) ?_
  intro W base args ds gs before hval0 hW _ _ hL _
  have hval : ∀ (j : Nat) t v, Tryd.f6.params[j]? = some t → args[j]? = some v → Value.okWide Tryd.prog W .any base t v := hval0
  have hW' := hW
  obtain ⟨p, q, hA0, hV, rfl, hfz, hnd⟩ := hW
  have hA : DataW.TrodAll enc Tryd.prog W 0 (fun _ => true) true Tryd.f6.params.toList args.toList ds p := hA0
  rw [Tryd.params6] at hA hval
  obtain ⟨v0, v1, v2, d0, d1, d2, p0, p1, p2, rfl, rfl, rfl, h0, h1, h2⟩ := trodAll_three hA
  obtain ⟨rfl, rfl⟩ := trodVars_none hV
  obtain ⟨s, rfl, rfl, rfl, hs⟩ := open_string Tryd.underlying9 (hval 0 9 v0 rfl rfl) h0
  obtain ⟨a, rfl, rfl, rfl, wa⟩ := open_int Tryd.underlying3 (hval 1 3 v1 rfl rfl) h1
  obtain ⟨b, rfl, rfl, rfl, wb⟩ := open_int Tryd.underlying3 (hval 2 3 v2 rfl rfl) h2
  obtain ⟨hH, hK⟩ := of_laid hL
  clear hA0 hval0
  simp only [List.append_nil] at hW'
  refine (shaCut_any s a b W hs hK hH).mono fun e W' ⟨he, hb⟩ => ?_
  subst he
  refine ⟨_, rfl, _, _, _, [], [], [], hW', ?_, ?_, rfl, hb.frame _, fun h => by cases h⟩
  · exact trodAll_mk1 (shut_bool Tryd.underlying4 _)
  · exact trodAll_mk3 (shut_string Tryd.underlying9 hs) (shut_int Tryd.underlying3 wa) (shut_int Tryd.underlying3 wb)

theorem shaCut_holds : Rows.ShaCutSaid :=
  OpenClaim.holds_of_wide 6 Tryd.f6 rfl rfl rfl rfl rfl rfl rfl ⟨rfl, rfl, rfl, rfl, rfl⟩ rfl rfl rfl rfl rfl (by kernel_rfl) Tryd.func6 (by kernel_rfl)
    (of_decide_eq_true (by kernel_rfl)) (by unfold Func.isWrapper; first | (rw [if_pos (by decide +kernel)]; kernel_rfl) | (rw [if_neg (by decide +kernel)]; exact ⟨rfl, rfl⟩))
    (fun os started H enc _ => shaCut_lifted os started H enc)

theorem shaCut_card : Rows.ShaCutCardSaid :=
  Claim7.holds_tied_plain_at .later [] [.data, .data] true (true, "9c0c385ee49ba105079584480bff0604f5cd4c512430f4405f75f7a7a0c538b9") false
    shaCut_holds (fun _ h => by cases h) (by kernel_rfl) (fun _ h => by cases h) shaCut_row_tie rfl ⟨rfl, rfl⟩ (by kernel_rfl) rfl
    (fun f fn hf hfn => by
      obtain rfl : f = 6 := Option.some.inj ((show Tryd.prog.funcNamed "cresset/cressetlaw01.ShaCut" = some 6 by kernel_rfl).symm.trans hf) |>.symm
      obtain rfl : fn = Tryd.f6 := (Option.some.inj (Tryd.func6.symm.trans hfn)).symm
      exact ⟨by kernel_rfl, fun j t ht => by
        rw [Tryd.params6] at ht
        have hm : t ∈ [9, 3, 3] := by simpa using Array.mem_of_getElem? ht
        have hall : ([9, 3, 3].all fun u => !Tryd.prog.wantsStandIn u) = true := by kernel_rfl
        exact (show Tryd.prog.wantsStandIn t = false by simpa using List.all_eq_true.1 hall t hm)⟩)
    (by kernel_rfl)
#print axioms shaCut_card
end Go.Proofs.YtbaalgbkpgfhcaaDoor
