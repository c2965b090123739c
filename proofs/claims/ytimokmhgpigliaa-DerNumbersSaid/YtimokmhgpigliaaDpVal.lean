/- Package der: the values of an object identifier's body, one after another: sizeOf, valueOf. -/
import Derived.Test.YtimokmhgpigliaaDpRead
import Derived.Test.YtimokmhgpigliaaDrROid
namespace Go.Proofs.Ytimokmhgpigliaa
open Go.RowKit Go.Sort
set_option maxRecDepth 100000
set_option linter.unusedSimpArgs false
set_option linter.unusedVariables false

/-- How many bytes the first value has. -/
def hdN : List UInt8 → Nat
  | [] => 0
  | b :: r => if b.toNat < 128 then 1 else hdN r + 1
def lowIn (l : List UInt8) : Prop := ∃ j, j < l.length ∧ rdB l j < 128
/-- A value's groups behind others. -/
def vlF (n : Nat) (l : List UInt8) : Nat → Nat
  | 0 => n
  | k + 1 => 128 * vlF n l k + rdB l k % 128
theorem vlF_cons (n : Nat) (b : UInt8) (r : List UInt8) : ∀ k, vlF n (b :: r) (k + 1) = vlF (128 * n + b.toNat % 128) r k
  | 0 => rfl
  | k + 1 => by rw [vlF, vlF_cons n b r k, rdB_cons, vlF]
theorem hdN_le : ∀ (l : List UInt8), hdN l ≤ l.length
  | [] => Nat.le_refl _
  | b :: r => by
    have := hdN_le r
    rw [hdN]
    split
    · simp
    · simp; omega
theorem hdN_pos (b : UInt8) (r : List UInt8) : 1 ≤ hdN (b :: r) := by rw [hdN]; split <;> omega
theorem lowIn_tail (b : UInt8) (r : List UInt8) (h : lowIn (b :: r)) (hb : ¬ b.toNat < 128) : lowIn r := by
  obtain ⟨j, hj, hl⟩ := h
  match j, hj, hl with
  | 0, _, hl => exact absurd hl hb
  | j + 1, hj, hl => exact ⟨j, by simpa using hj, by rwa [rdB_cons] at hl⟩
theorem hdN_bytes : ∀ (l : List UInt8), lowIn l → (∀ j, j + 1 < hdN l → 128 ≤ rdB l j) ∧ rdB l (hdN l - 1) < 128 ∧ 1 ≤ hdN l
  | [], h => by obtain ⟨j, hj, _⟩ := h; exact absurd hj (by simp)
  | b :: r, h => by
    by_cases c : b.toNat < 128
    · rw [hdN, if_pos c]
      exact ⟨fun j hj => by omega, c, Nat.le_refl _⟩
    · obtain ⟨h1, h2, h3⟩ := hdN_bytes r (lowIn_tail b r h c)
      rw [hdN, if_neg c]
      refine ⟨fun j hj => ?_, ?_, by omega⟩
      · match j with
        | 0 => show 128 ≤ b.toNat; omega
        | j + 1 => rw [rdB_cons]; exact h1 j (by omega)
      · rw [show hdN r + 1 - 1 = (hdN r - 1) + 1 by omega, rdB_cons]; exact h2
/-- A value read whole. -/
theorem roF_run : ∀ (l : List UInt8) (n m : Nat) (big : Bool) (acc : List Nat), lowIn l → ¬ (m = 0 ∧ rdB l 0 = 128) →
    ∃ x, roF l n m big acc = roF (l.drop (hdN l)) 0 0 (big || decide (4 < m + hdN l)) (acc ++ [x]) ∧ ((big || decide (4 < m + hdN l)) = false → x = vlF n l (hdN l))
  | [], n, m, big, acc, h, _ => by obtain ⟨j, hj, _⟩ := h; exact absurd hj (by simp)
  | b :: r, n, m, big, acc, h, hm => by
    have hm' : ¬ (m = 0 ∧ b.toNat = 128) := hm
    rw [roF_step, if_neg hm']
    by_cases c : b.toNat < 128
    · rw [if_pos c]
      have e1 : hdN (b :: r) = 1 := by rw [hdN, if_pos c]
      rw [e1]
      refine ⟨_, rfl, fun h0 => ?_⟩
      rw [h0, if_neg Bool.false_ne_true]
      rfl
    · rw [if_neg c]
      have e1 : hdN (b :: r) = hdN r + 1 := by rw [hdN, if_neg c]
      have hlr := lowIn_tail b r h c
      obtain ⟨_, _, hp⟩ := hdN_bytes r hlr
      obtain ⟨x, hx, hv⟩ := roF_run r (if (big || decide (4 < m + 1)) = true then n else 128 * n + b.toNat % 128) (m + 1) (big || decide (4 < m + 1)) acc hlr (by omega)
      have eb : ((big || decide (4 < m + 1)) || decide (4 < m + 1 + hdN r)) = (big || decide (4 < m + (hdN r + 1))) := by
        rw [Bool.or_assoc]
        congr 1
        rw [Bool.eq_iff_iff, Bool.or_eq_true, decide_eq_true_eq, decide_eq_true_eq, decide_eq_true_eq]
        omega
      rw [eb] at hx hv
      rw [e1]
      refine ⟨x, hx, fun h0 => ?_⟩
      have h1 := hv h0
      have hbb : (big || decide (4 < m + 1)) = false := by
        rw [Bool.or_eq_false_iff] at h0 ⊢
        exact ⟨h0.1, decide_eq_false (fun hh => (of_decide_eq_false h0.2) (by omega))⟩
      rw [hbb, if_neg Bool.false_ne_true] at h1
      rw [h1, vlF_cons]
/-- What the loop of ReadOid keeps: the rest of the body, whether a value was too great, the values. -/
def OInv (s c : ByteArray) (bg : Bool) (vs : List Nat) : Prop :=
  ∃ (accR : List Nat) (bigR : Bool), roF c.data.toList 0 0 bigR accR = roR s ∧ (bg = false → bigR = false ∧ accR = vs) ∧ (bg = true → bigR = true ∨ 19 < accR.length) ∧ vs.length ≤ 19 ∧ (∀ x ∈ vs, x ≤ 268435455) ∧
    (c.size ≠ 0 → lowIn c.data.toList) ∧ (c.size = 0 → bg = false → vs ≠ []) ∧ c.size ≤ s.size ∧ (c.size ≠ 0 → rdB c.data.toList (c.size - 1) < 128)
theorem low_last (c : ByteArray) (h0 : c.size ≠ 0) (h : rdB c.data.toList (c.size - 1) < 128) : lowIn c.data.toList := ⟨c.size - 1, by rw [← Lib.size_eq]; omega, h⟩
theorem oinv_start (s : ByteArray) (h0 : s.size ≠ 0) (h : rdB s.data.toList (s.size - 1) < 128) : OInv s s false [] :=
  ⟨[], false, rfl, fun _ => ⟨rfl, rfl⟩, fun h => (by cases h), by simp, fun x hx => (by cases hx), fun h0 => low_last s h0 h, fun h => absurd h h0, Nat.le_refl _, fun _ => h⟩
theorem oinv_stop (s c : ByteArray) (bg : Bool) (vs : List Nat) (h : OInv s c bg vs) (h0 : c.size ≠ 0) (hb : rdB c.data.toList 0 = 128) : roR s = none := by
  obtain ⟨accR, bigR, h1, _⟩ := h
  rw [← h1]
  cases hc : c.data.toList with
  | nil => exact absurd (by rw [Lib.size_eq, hc]; rfl) h0
  | cons b r =>
    rw [hc] at hb
    rw [roF_step, if_pos ⟨rfl, hb⟩]
theorem oinv_next (s c : ByteArray) (bg : Bool) (vs : List Nat) (h : OInv s c bg vs) (h0 : c.size ≠ 0) (hb : rdB c.data.toList 0 ≠ 128) :
    1 ≤ hdN c.data.toList ∧ hdN c.data.toList ≤ c.size ∧
    (bg = true ∨ 4 < hdN c.data.toList ∨ vs.length = 19 → OInv s (c.extract (hdN c.data.toList) c.size) true vs) ∧
    (bg = false → hdN c.data.toList ≤ 4 → vs.length ≠ 19 → OInv s (c.extract (hdN c.data.toList) c.size) false (vs ++ [vlF 0 c.data.toList (hdN c.data.toList)]) ∧ vlF 0 c.data.toList (hdN c.data.toList) ≤ 268435455) := by
  obtain ⟨accR, bigR, h1, h2, h3, h4, h5, h6, h7, h8, h9⟩ := h
  have hlow := h6 h0
  obtain ⟨q1, q2, q3⟩ := hdN_bytes _ hlow
  have hle : hdN c.data.toList ≤ c.size := by have := hdN_le c.data.toList; rwa [← Lib.size_eq] at this
  obtain ⟨x, hx, hv⟩ := roF_run c.data.toList 0 0 bigR accR hlow (by omega)
  rw [Nat.zero_add] at hx hv
  have hsz : (c.extract (hdN c.data.toList) c.size).size = c.size - hdN c.data.toList := suf_size c _
  have hlist : (c.extract (hdN c.data.toList) c.size).data.toList = c.data.toList.drop (hdN c.data.toList) := suf_list c _
  have hlast : (c.extract (hdN c.data.toList) c.size).size ≠ 0 → rdB (c.extract (hdN c.data.toList) c.size).data.toList ((c.extract (hdN c.data.toList) c.size).size - 1) < 128 := fun hne => by
    rw [suf_at, hsz]
    rw [hsz] at hne
    rw [show hdN c.data.toList + (c.size - hdN c.data.toList - 1) = c.size - 1 by omega]
    exact h9 h0
  refine ⟨q3, hle, fun hcase => ?_, fun hb0 hn4 hv19 => ?_⟩
  · refine ⟨accR ++ [x], bigR || decide (4 < hdN c.data.toList), by rw [hlist, ← hx]; exact h1, fun h => (by cases h), fun _ => ?_, h4, h5, fun hne => low_last _ hne (hlast hne), fun _ h => (by cases h), by rw [hsz]; omega, hlast⟩
    rcases hcase with hc | hc | hc
    · rcases h3 hc with hh | hh
      · left; rw [hh]; rfl
      · right; rw [List.length_append]; omega
    · left; rw [decide_eq_true hc, Bool.or_true]
    · cases bg with
      | true => rcases h3 rfl with hh | hh
                · left; rw [hh]; rfl
                · right; rw [List.length_append]; omega
      | false =>
        right
        rw [(h2 rfl).2, List.length_append, hc]
        simp
  · obtain ⟨e1, e2⟩ := h2 hb0
    have hbf : (bigR || decide (4 < hdN c.data.toList)) = false := by rw [e1, decide_eq_false (by omega)]; rfl
    have hvx := hv hbf
    have hbound : vlF 0 c.data.toList (hdN c.data.toList) ≤ 268435455 := by
      have key : ∀ k, vlF 0 c.data.toList k < 128 ^ k := fun k => by
        induction k with
        | zero => exact Nat.one_pos
        | succ k ih => rw [vlF, Nat.pow_succ]; omega
      have := key (hdN c.data.toList)
      have p4 : 128 ^ hdN c.data.toList ≤ 128 ^ 4 := Nat.pow_le_pow_right (by decide) hn4
      have e4 : (128 : Nat) ^ 4 = 268435456 := by decide
      omega
    refine ⟨⟨accR ++ [x], false, by rw [hlist, ← hbf, ← hx]; exact h1, fun _ => ⟨rfl, by rw [e2, hvx]⟩, fun h => (by cases h), by rw [List.length_append]; simp; omega, fun y hy => ?_, fun hne => low_last _ hne (hlast hne), fun _ _ => by simp, by rw [hsz]; omega, hlast⟩, hbound⟩
    rcases List.mem_append.1 hy with hy | hy
    · exact h5 y hy
    · rw [List.mem_singleton.1 hy]; exact hbound
theorem oinv_end (s c : ByteArray) (bg : Bool) (vs : List Nat) (h : OInv s c bg vs) (h0 : c.size = 0) (hp : ¬ (s.size = 0 ∨ 128 ≤ rdB s.data.toList (s.size - 1))) :
    (bg = true → roV s = [] ∧ roErr s = 13) ∧ (bg = false → roErr s = 0 ∧ roV s = namesOf vs ∧ vs ≠ [] ∧ (∀ x ∈ vs, x ≤ 268435455) ∧ vs.length ≤ 19) := by
  obtain ⟨accR, bigR, h1, h2, h3, h4, h5, h6, h7, h8, h9⟩ := h
  have hnil : c.data.toList = [] := List.length_eq_zero_iff.1 (by rw [← Lib.size_eq]; exact h0)
  have hR : roR s = some (accR, bigR) := by rw [← h1, hnil]; rfl
  refine ⟨fun hb => ?_, fun hb => ?_⟩
  · have : roErr s = 13 := by rw [roErr, if_neg hp, hR]; exact if_pos (h3 hb)
    exact ro_err s 13 this (by decide)
  · obtain ⟨e1, e2⟩ := h2 hb
    have he : roErr s = 0 := by
      rw [roErr, if_neg hp, hR]
      refine if_neg ?_
      rw [e1, e2]
      simp
      omega
    refine ⟨he, ?_, h7 h0 hb, h5, h4⟩
    rw [roV, if_pos he, hR, e2]
theorem and128 : ∀ b : Fin 256, (bits .and .u8 ((b.val : Nat) : Int) 128 != 0) = decide (128 ≤ b.val) := by decide +kernel
theorem and128_of (b : Nat) (h : b < 256) : (bits .and .u8 (b : Int) 128 != 0) = decide (128 ≤ b) := and128 ⟨b, h⟩
theorem and127b : ∀ b : Fin 256, bits .and .u8 ((b.val : Nat) : Int) 127 = ((b.val % 128 : Nat) : Int) := by decide +kernel
theorem and127b_of (b : Nat) (h : b < 256) : bits .and .u8 (b : Int) 127 = ((b % 128 : Nat) : Int) := and127b ⟨b, h⟩
theorem or_low7 (m b : Nat) (hb : b < 128) (hm : m < 72057594037927936) : bits .or .i64 ((m : Int) * 128) (b : Int) = (m : Int) * 128 + (b : Int) := by
  have e1 : (BitVec.ofInt 64 ((m : Int) * 128)).toNat = 2 ^ 7 * m := by rw [BitVec.toNat_ofInt]; omega
  have e2 : (BitVec.ofInt 64 (b : Int)).toNat = b := by rw [BitVec.toNat_ofInt]; omega
  have h := Nat.two_pow_add_eq_or_of_lt (show b < 2 ^ 7 by omega) m
  show IntKind.i64.wrap (((BitVec.ofInt 64 ((m : Int) * 128) ||| BitVec.ofInt 64 (b : Int)).toNat : Nat) : Int) = _
  rw [BitVec.toNat_or, e1, e2, ← h, IntKind.wrap_i64]
  omega
set_option maxHeartbeats 4000000 in
theorem sizeOf_any (c : ByteArray) (w : World) (hs : c.size ≤ 1000000) (hlow : lowIn c.data.toList) :
    Calls Try.prog 44 #[.string c] w fun e w' => e = .returned (.int .i64 (hdN c.data.toList : Int)) ∧ Below w.heap.size w w' := by
  obtain ⟨q1, q2, q3⟩ := hdN_bytes _ hlow
  have hle : hdN c.data.toList ≤ c.size := by have := hdN_le c.data.toList; rwa [← Lib.size_eq] at this
  have Q1 := Lib.hid q1; have Q2 := Lib.hid q2
  have HR := Lib.hid (fun k (h : k < c.size) => rd_at c k h)
  have HL := Lib.hid (fun k => rdB_lt c.data.toList k)
  have hb := Below.refl w.heap.size w
  clear q1 q2 hlow
  generalize hdN c.data.toList = t at *
  go_enter Try.func44, Try.ntmps44
  go_wp2_with fail
  go_loopw [3] (fun nv wr => ∃ k : Nat, k + 1 ≤ t ∧ nv = .int .i64 ((k : Int) + 1) ∧ Below w.heap.size w wr) (fun nv _ => t - (intOf nv).toNat)
  case atStart => exact ⟨0, by omega, rfl, hb⟩
  case round =>
    clear hb
    obtain ⟨k, hk, rfl, hb⟩ := hrel
    have hkc : k < c.size := by omega
    have hki : (k : Int) < (c.size : Int) := by omega
    have hk6 : k < 1000000 := by omega
    have tk := HR.out k hkc
    have hbk := HL.out k
    have e1 : (k : Int) + 1 - 1 = (k : Int) := by omega
    by_cases hlt : k + 1 < t
    · have hd := and128_of _ hbk
      rw [decide_eq_true (Q1.out k hlt)] at hd
      generalize rdB c.data.toList k = b at *
      go_wp2_with fail
      go_roundw
      case rel => exact ⟨k + 1, by omega, by go_num, hb⟩
      case measure => simp [intOf]; omega
    · obtain rfl : t = k + 1 := by omega
      have h2 := Q2.out
      rw [Nat.add_sub_cancel] at h2
      have hd := and128_of _ hbk
      rw [decide_eq_false (by omega)] at hd
      clear h2 Q1 Q2
      generalize rdB c.data.toList k = b at *
      go_wp2_with fail
      go_ret
      exact ⟨by simp, hb⟩
set_option maxHeartbeats 4000000 in
theorem valueOf_any (c : ByteArray) (w : World) (hs : c.size ≤ 4) :
    Calls Try.prog 45 #[.string c] w fun e w' => e = .returned (.int .i64 (vlF 0 c.data.toList c.size : Int)) ∧ Below w.heap.size w w' := by
  have key : ∀ k, vlF 0 c.data.toList k < 128 ^ k := fun k => by
    induction k with
    | zero => exact Nat.one_pos
    | succ k ih => rw [vlF, Nat.pow_succ]; omega
  have HK := Lib.hid key
  have HR := Lib.hid (fun k (h : k < c.size) => rd_at c k h)
  have HL := Lib.hid (fun k => rdB_lt c.data.toList k)
  have HV : Hid (∀ k, vlF 0 c.data.toList (k + 1) = 128 * vlF 0 c.data.toList k + rdB c.data.toList k % 128) := Lib.hid (fun k => rfl)
  have hb := Below.refl w.heap.size w
  clear key
  go_enter Try.func45, Try.ntmps45
  go_wp2_with fail
  go_loopw [3, 4, 7] (fun nv _ iv wr => ∃ k : Nat, k ≤ c.size ∧ nv = .int .i64 (vlF 0 c.data.toList k : Int) ∧ iv = .int .i64 (k : Int) ∧ Below w.heap.size w wr) (fun _ _ iv _ => c.size - (intOf iv).toNat)
  case atStart => exact ⟨0, by omega, rfl, rfl, hb⟩
  case round =>
    clear hb
    obtain ⟨k, hk, rfl, rfl, hb⟩ := hrel
    by_cases hlt : k < c.size
    · have hd : decide ((k : Int) < (c.size : Int)) = true := by simp; omega
      have hki : (k : Int) < (c.size : Int) := by omega
      have tk := HR.out k hlt
      have hbk := HL.out k
      have hm : vlF 0 c.data.toList k < 268435456 := Nat.lt_of_lt_of_le (HK.out k) (by
        have : 128 ^ k ≤ 128 ^ 4 := Nat.pow_le_pow_right (by decide) (by omega)
        have e4 : (128 : Nat) ^ 4 = 268435456 := by decide
        omega)
      have ha := and127b_of _ hbk
      have hr : rdB c.data.toList k % 128 < 128 := by omega
      have ho := or_low7 (vlF 0 c.data.toList k) (rdB c.data.toList k % 128) hr (by omega)
      have hy : (vlF 0 c.data.toList k : Int) * 128 + ((rdB c.data.toList k % 128 : Nat) : Int) = ((vlF 0 c.data.toList (k + 1) : Nat) : Int) := by rw [HV.out k]; omega
      obtain ⟨y, ey⟩ : ∃ y, vlF 0 c.data.toList (k + 1) = y := ⟨_, rfl⟩
      rw [ey] at hy
      have HY := Lib.hid hy
      have HE := Lib.hid ey
      have ws : IntKind.i64.wrap ((vlF 0 c.data.toList k : Int) * 128) = (vlF 0 c.data.toList k : Int) * 128 := by rw [IntKind.wrap_i64]; omega
      clear hy ey
      generalize rdB c.data.toList k % 128 = x at *
      generalize vlF 0 c.data.toList k = m at *
      generalize rdB c.data.toList k = b at *
      have wk : IntKind.i64.wrap (x : Int) = (x : Int) := by rw [IntKind.wrap_i64]; omega
      go_wp2_with fail
      go_roundw
      case rel => exact ⟨k + 1, by omega, by rw [HE.out, ← HY.out], by go_num, hb⟩
      case measure => simp [intOf]; omega
    · have hd : decide ((k : Int) < (c.size : Int)) = false := by simp; omega
      obtain rfl : k = c.size := by omega
      go_wp2_with fail
      go_ret
      exact ⟨rfl, hb⟩
end Go.Proofs.Ytimokmhgpigliaa
