/- slices.Reverse of bytes that the caller owns. -/
import Derived.Test.YtimokmhgpigliaaDrOid
import Derived.BigRegion
namespace Go.Proofs.Ytimokmhgpigliaa
open Go.RowKit Go.Sort
set_option maxRecDepth 100000
set_option linter.unusedSimpArgs false
set_option linter.unusedVariables false

/-- Bytes of which the outermost have changed places, so many of them. -/
def rvAt (l : List UInt8) (k m : Nat) : UInt8 := if m < k ∨ l.length ≤ m + k then l.getD (l.length - 1 - m) 0 else l.getD m 0
def rvL (l : List UInt8) (k : Nat) : List UInt8 := (List.range l.length).map (rvAt l k)
theorem rvL_length (l : List UInt8) (k : Nat) : (rvL l k).length = l.length := by simp [rvL]
theorem rvL_at (l : List UInt8) (k m : Nat) (h : m < l.length) : (rvL l k).getD m 0 = rvAt l k m := by
  rw [rvL, List.getD_eq_getElem?_getD, List.getElem?_map, List.getElem?_range h]; rfl
theorem list_of_getD (a b : List UInt8) (hl : a.length = b.length) (h : ∀ m, m < a.length → a.getD m 0 = b.getD m 0) : a = b := by
  apply List.ext_getElem hl
  intro m h1 h2
  have := h m h1
  rwa [List.getD_eq_getElem?_getD, List.getD_eq_getElem?_getD, List.getElem?_eq_getElem h1, List.getElem?_eq_getElem h2] at this
theorem rvL_zero (l : List UInt8) : rvL l 0 = l := by
  refine list_of_getD _ _ (rvL_length l 0) fun m h => ?_
  rw [rvL_length] at h
  rw [rvL_at l 0 m h, rvAt, if_neg (by omega)]
theorem getD_set (l : List UInt8) (i m : Nat) (x : UInt8) (h : m < l.length) : (l.set i x).getD m 0 = if i = m then x else l.getD m 0 := by
  rw [List.getD_eq_getElem?_getD, List.getElem?_set, List.getD_eq_getElem?_getD]
  by_cases e : i = m
  · subst e; rw [if_pos rfl, if_pos rfl, if_pos h]; rfl
  · rw [if_neg e, if_neg e]
theorem rvL_step (l : List UInt8) (k : Nat) (h : k < l.length - 1 - k) : ((rvL l k).set k ((rvL l k).getD (l.length - 1 - k) 0)).set (l.length - 1 - k) ((rvL l k).getD k 0) = rvL l (k + 1) := by
  refine list_of_getD _ _ (by simp [rvL_length]) fun m hm => ?_
  have hm' : m < l.length := by simpa [rvL_length] using hm
  rw [getD_set _ _ _ _ (by simpa [rvL_length] using hm'), getD_set _ _ _ _ (by rw [rvL_length]; exact hm'), rvL_at l k _ (by omega), rvL_at l k _ (by omega), rvL_at l k _ hm', rvL_at l (k + 1) _ hm', rvAt, rvAt, rvAt, rvAt]
  rw [if_neg (show ¬ (k < k ∨ l.length ≤ k + k) by omega), if_neg (show ¬ (l.length - 1 - k < k ∨ l.length ≤ l.length - 1 - k + k) by omega)]
  by_cases e1 : l.length - 1 - k = m
  · rw [if_pos e1, if_pos (by omega), show l.length - 1 - m = k by omega]
  rw [if_neg e1]
  by_cases e2 : k = m
  · rw [if_pos e2, if_pos (by omega), e2]
  rw [if_neg e2]
  by_cases e3 : m < k ∨ l.length ≤ m + k
  · rw [if_pos e3, if_pos (by omega)]
  · rw [if_neg e3, if_neg (by omega)]
theorem rvL_end (l : List UInt8) (k : Nat) (h : ¬ k + k + 1 < l.length) : rvL l k = l.reverse := by
  refine list_of_getD _ _ (by simp [rvL_length]) fun m hm => ?_
  rw [rvL_length] at hm
  rw [rvL_at l k m hm, rvAt, List.getD_eq_getElem?_getD (l := l.reverse), List.getElem?_reverse hm, ← List.getD_eq_getElem?_getD]
  by_cases e : m < k ∨ l.length ≤ m + k
  · rw [if_pos e]
  · rw [if_neg e, show l.length - 1 - m = m by omega]
theorem below_drew (X : World) : Below X.heap.size X X.drew := ⟨rfl, rfl, rfl, Nat.le_refl _, fun k hk => rfl⟩
set_option maxHeartbeats 8000000 in
theorem reverse_any (g cap n B : Nat) (l : List UInt8) (w : World) (hl : l.length = n) (hn : n ≤ 1000000) (ho : OwnS w B g cap (Lib.byteCells l)) (hg : g < w.heap.size) :
    Calls Try.prog 51 #[.slice (some ⟨g, 0, none⟩) n cap] w fun e w' => e = .returned (.tuple #[]) ∧ OwnS w' B g cap (Lib.byteCells l.reverse) ∧ Below g w w' ∧ g < w'.heap.size := by
  have HO0 := Lib.hid ho
  have hb0 := Below.refl g w
  have HL := Lib.hid hl
  have hn1 : IntKind.i64.wrap ((n : Int) - 1) = (n : Int) - 1 := by rw [IntKind.wrap_i64]; omega
  have hg0 := Nat.le_of_lt hg
  clear ho hl
  go_enter Try.func51, Try.ntmps51
  go_wp2_with fail
  go_loopw [2, 3] (fun iv jv wr => ∃ k : Nat, 2 * k ≤ n + 1 ∧ iv = .int .i64 (k : Int) ∧ jv = .int .i64 ((n : Int) - 1 - (k : Int)) ∧ OwnS wr B g cap (Lib.byteCells (rvL l k)) ∧ Below g w wr ∧ g < wr.heap.size) (fun iv _ _ => n - (intOf iv).toNat)
  case atStart => exact ⟨0, by omega, rfl, by simp, by rw [rvL_zero]; exact HO0.out, hb0, hg⟩
  case round =>
    clear hb0 HO0 hn1 hg hg0
    obtain ⟨k, hk, rfl, rfl, hown, hb, hgr⟩ := hrel
    have HO := Lib.hid hown
    clear hown
    by_cases hlt : k + k + 1 < n
    · obtain ⟨j, hj⟩ : ∃ j, j = n - 1 - k := ⟨_, rfl⟩
      have hji : (n : Int) - 1 - (k : Int) = (j : Int) := by omega
      have hd : decide ((k : Int) < (j : Int)) = true := by simp; omega
      have hkj : k < j := by omega
      have hjn : j < n := by omega
      have hkn : k < n := by omega
      have hkni : (k : Int) < (n : Int) := by omega
      have hjni : (j : Int) < (n : Int) := by omega
      have hL : (rvL l k).length = n := by rw [rvL_length]; exact HL.out
      obtain ⟨cx, fx⟩ := own_byte HO.out k (by omega)
      obtain ⟨cy, fy⟩ := own_byte HO.out j (by omega)
      have HS := Lib.hid (rvL_step l k (by rw [HL.out]; omega))
      rw [HL.out, ← hj] at HS
      have wj : IntKind.i64.wrap ((j : Int) - 1) = (j : Int) - 1 := by rw [IntKind.wrap_i64]; omega
      have hj1 : (n : Int) - 1 - ((k + 1 : Nat) : Int) = (j : Int) - 1 := by omega
      have HJ1 := Lib.hid hj1
      have HLL := Lib.hid hL
      rw [hji]
      generalize (rvL l k).getD k 0 = x at *
      generalize (rvL l k).getD j 0 = y at *
      clear hj hji hk hj1 hL
      go_wp2_with fail
      have HO3 := Lib.hid (own_byte_put HO.out k (by rw [HLL.out]; exact hkn) y)
      have HO4 := Lib.hid (own_byte_put HO3.out j (by rw [List.length_set, HLL.out]; exact hjn) x)
      rw [HS.out] at HO4
      have hb4 : Below g w ((wr.setCell ⟨g, k, none⟩ (.int .u8 (y.toNat : Int))).setCell ⟨g, j, none⟩ (.int .u8 (x.toNat : Int))) := (hb.setCell (by simp) _).setCell (by simp) _
      have hg4 : g < ((wr.setCell ⟨g, k, none⟩ (.int .u8 (y.toNat : Int))).setCell ⟨g, j, none⟩ (.int .u8 (x.toNat : Int))).heap.size := by simp [World.setCell]; exact hgr
      have HO5 := Lib.hid (HO4.out.stays (below_drew _))
      have hb5 := hb4.trans ((below_drew _).mono (Nat.le_of_lt hg4))
      have hg5 := Nat.lt_of_lt_of_le hg4 (below_drew ((wr.setCell ⟨g, k, none⟩ (.int .u8 (y.toNat : Int))).setCell ⟨g, j, none⟩ (.int .u8 (x.toNat : Int)))).size
      go_region
      generalize ((wr.setCell _ _).setCell _ _).drew = V at *
      clear cx fx cy fy HO hb hgr HO3 HO4 HS hb4 hg4
      go_wp2_with fail
      go_roundw
      case rel => exact ⟨k + 1, by omega, by go_num, by rw [HJ1.out], HO5.out, hb5, hg5⟩
      case measure => simp [intOf]; omega
    · have hd : decide ((k : Int) < (n : Int) - 1 - (k : Int)) = false := by simp; omega
      have he := rvL_end l k (by rw [HL.out]; exact hlt)
      rw [he] at HO
      have hown := HO.out
      clear HO he hk hlt
      go_wp2_with fail
      go_end0
      exact ⟨rfl, hown, hb, hgr⟩
end Go.Proofs.Ytimokmhgpigliaa
