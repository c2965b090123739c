/- Which name of numbers bytes are: the reference's ReadOid. -/
import Derived.Test.YtimokmhgpigliaaDrOid
namespace Go.Proofs.Ytimokmhgpigliaa
open Go.RowKit Go.Sort
set_option maxRecDepth 100000
set_option linter.unusedSimpArgs false
set_option linter.unusedVariables false

theorem infoI13 : (Try.prog.info? 3).map (fun i => (i.zero, i.size, i.bytes)) = some (some (.int .i64 0), 1, 8) := by kernel_rfl
theorem cell_int_new (W : World) (t : TypeId) (z : Int) : ∀ j u, [Value.int .i64 z][j]? = some u → (W.alloc (.cells #[.int .i64 z] t)).cell? ((⟨W.heap.size, 0, none⟩ : Addr).add j) = some u := fun j u hj => by
  have hadd : (⟨W.heap.size, 0, none⟩ : Addr).add j = ⟨W.heap.size, j, none⟩ := by unfold Addr.add; split <;> simp_all
  rw [hadd, cell_of_row _ W.heap.size j _ t (0, 0) (blk_new W _)]
  simpa using hj
theorem own_last {W : World} {B : Nat} {v : Value} {xs : List Value} {z y : Int} (h : Own W B v (xs ++ [.int .i64 z])) (e : z = y) : Own W B v (xs ++ [.int .i64 y]) := e ▸ h
theorem iCells_one (z : Int) : iCells [z] = [.int .i64 z] := rfl
theorem roF_step (b : UInt8) (r : List UInt8) (n m : Nat) (big : Bool) (acc : List Nat) : roF (b :: r) n m big acc =
    if m = 0 ∧ b.toNat = 128 then none else
      if b.toNat < 128 then roF r 0 0 (big || decide (4 < m + 1)) (acc ++ [if (big || decide (4 < m + 1)) = true then n else 128 * n + b.toNat % 128])
      else roF r (if (big || decide (4 < m + 1)) = true then n else 128 * n + b.toNat % 128) (m + 1) (big || decide (4 < m + 1)) acc := rfl
theorem roF_drop (l : List UInt8) (k : Nat) (h : k < l.length) : ∃ b : UInt8, b.toNat = rdB l k ∧ l.drop k = b :: l.drop (k + 1) :=
  ⟨l[k], by rw [rdB, List.getD_eq_getElem?_getD, List.getElem?_eq_getElem h]; rfl, List.drop_eq_getElem_cons h⟩
def nats (acc : List Nat) : List Int := List.map (fun x : Nat => (x : Int)) acc
theorem nats_length (acc : List Nat) : (nats acc).length = acc.length := List.length_map _
theorem nats_snoc (acc : List Nat) (v : Nat) : nats (acc ++ [v]) = nats acc ++ [(v : Int)] := List.map_append
def RoInv (s : ByteArray) (k n m : Nat) (big : Bool) (acc : List Nat) : Prop :=
  roF (s.data.toList.drop k) n m big acc = roR s ∧ n ≤ 268435455 ∧ (big = false → n < 128 ^ m ∧ m ≤ 4) ∧ m ≤ k ∧ acc.length ≤ k ∧ (∀ x ∈ acc, x ≤ 268435455) ∧ (0 < k → rdB s.data.toList (k - 1) < 128 → acc ≠ [])
theorem ro_start (s : ByteArray) : RoInv s 0 0 0 false [] := ⟨rfl, by omega, fun _ => ⟨by decide, by omega⟩, by omega, Nat.le_refl _, fun x hx => (by cases hx), fun h => absurd h (by omega)⟩
/-- A value begins with 128. -/
theorem ro_stop (s : ByteArray) (k n m : Nat) (big : Bool) (acc : List Nat) (h : RoInv s k n m big acc) (hm : m = 0) (hk : k < s.size) (hb : rdB s.data.toList k = 128) : roR s = none := by
  obtain ⟨b, e1, e2⟩ := roF_drop s.data.toList k (by rw [← Lib.size_eq]; exact hk)
  rw [← h.1, e2, roF_step, if_pos ⟨hm, by omega⟩]
/-- A byte more. -/
theorem ro_next (s : ByteArray) (k n m : Nat) (big nb : Bool) (acc : List Nat) (v : Nat) (h : RoInv s k n m big acc) (hk : k < s.size) (hn : ¬ (m = 0 ∧ rdB s.data.toList k = 128)) (hnb : nb = (big || decide (4 < m + 1))) (hv : v = if nb = true then n else 128 * n + rdB s.data.toList k % 128) :
    (rdB s.data.toList k < 128 → RoInv s (k + 1) 0 0 nb (acc ++ [v])) ∧ (128 ≤ rdB s.data.toList k → RoInv s (k + 1) v (m + 1) nb acc) := by
  obtain ⟨h1, h2, h3, h4, h5, h6, h7⟩ := h
  obtain ⟨b, e1, e2⟩ := roF_drop s.data.toList k (by rw [← Lib.size_eq]; exact hk)
  have hb256 := rdB_lt s.data.toList k
  rw [e2, roF_step, e1, if_neg hn, ← hnb, ← hv] at h1
  have hvb : v ≤ 268435455 ∧ (nb = false → v < 128 ^ (m + 1) ∧ m + 1 ≤ 4) := by
    cases nb with
    | true => rw [if_pos rfl] at hv; subst hv; exact ⟨h2, fun h => by cases h⟩
    | false =>
      rw [if_neg Bool.false_ne_true] at hv
      have hbig : big = false := by
        cases big with
        | false => rfl
        | true => rw [Bool.true_or] at hnb; cases hnb
      subst hbig
      rw [Bool.false_or] at hnb
      have h4' : ¬ 4 < m + 1 := of_decide_eq_false hnb.symm
      obtain ⟨g1, g2⟩ := h3 rfl
      have p4 : 128 ^ (m + 1) ≤ 128 ^ 4 := Nat.pow_le_pow_right (by decide) (by omega)
      have e4 : (128 : Nat) ^ 4 = 268435456 := by decide
      have : v < 128 ^ (m + 1) := by rw [Nat.pow_succ]; omega
      exact ⟨by omega, fun _ => ⟨this, by omega⟩⟩
  refine ⟨fun hlt => ?_, fun hge => ?_⟩
  · rw [if_pos hlt] at h1
    refine ⟨h1, by omega, fun _ => ⟨by decide, by omega⟩, by omega, by rw [List.length_append]; simp; omega, fun x hx => ?_, fun _ _ => by simp⟩
    rcases List.mem_append.1 hx with hx | hx
    · exact h6 x hx
    · rw [List.mem_singleton.1 hx]; exact hvb.1
  · rw [if_neg (by omega)] at h1
    exact ⟨h1, hvb.1, hvb.2, by omega, by omega, h6, fun _ hl => by rw [Nat.add_sub_cancel] at hl; omega⟩
theorem ro_end (s : ByteArray) (n m : Nat) (big : Bool) (acc : List Nat) (h : RoInv s s.size n m big acc) : roR s = some (acc, big) := by
  rw [← h.1, List.drop_of_length_le (by rw [← Lib.size_eq]; exact Nat.le_refl _)]
  rfl
theorem ro_err (s : ByteArray) (e : Int) (h : roErr s = e) (he : e ≠ 0) : roV s = [] ∧ roErr s = e := ⟨if_neg (by rw [h]; exact he), h⟩
set_option maxHeartbeats 16000000 in
theorem rReadOid_any (s : ByteArray) (w : World) (hs : s.size ≤ 1000000) :
    Calls Try.prog 28 #[.string s] w fun e w' => (∃ ao c, e = .returned (.tuple #[.slice ao (roV s).length c, .int .i64 (roErr s)]) ∧ IntsAt w' ao (roV s)) ∧ Below w.heap.size w w' := by
  have hl : s.data.toList.length = s.size := (Lib.size_eq s).symm
  obtain ⟨i0, hi, hz0, hz1, hz2⟩ := info_parts infoI13
  have hb := Below.refl w.heap.size w
  by_cases c0 : s.size = 0
  · have q0 : (s.toList == []) = true := by rw [Lib.toList_data]; have : s.data.toList = [] := List.length_eq_zero_iff.1 (by omega); rw [this]; rfl
    have HE := Lib.hid (ro_err s 10 (if_pos (.inl c0)) (by decide))
    clear hl hs
    go_enter Try.func28, Try.ntmps28
    go_wp2_with fail
    go_ret2
    exact ⟨⟨none, 0, by rw [HE.out.1, HE.out.2]; rfl, by rw [HE.out.1]; exact IntsAt.nil _ _⟩, hb⟩
  have q0 : (s.toList == []) = false := by rw [Lib.toList_data]; cases h : s.data.toList with | nil => rw [h] at hl; exact absurd hl.symm c0 | cons a r => rfl
  obtain ⟨j, hj⟩ : ∃ j, s.size = j + 1 := ⟨s.size - 1, by omega⟩
  have j1 : (s.size : Int) - 1 = (j : Int) := by omega
  have j2 : (j : Int) < (s.size : Int) := by omega
  have j3 : wrap64 (j : Int) = (j : Int) := by unfold wrap64; omega
  have tj := rd_at s j (by omega)
  have hj256 := rdB_lt s.data.toList j
  by_cases c1 : 128 ≤ rdB s.data.toList j
  · have d1 : decide (128 ≤ (rdB s.data.toList j : Int)) = true := by simp; omega
    have HE := Lib.hid (ro_err s 10 (if_pos (.inr (by rw [hj, Nat.add_sub_cancel]; exact c1))) (by decide))
    clear hl hs hj c1
    generalize rdB s.data.toList j = b at *
    go_enter Try.func28, Try.ntmps28
    go_wp2_with fail
    go_ret2
    exact ⟨⟨none, 0, by rw [HE.out.1, HE.out.2]; rfl, by rw [HE.out.1]; exact IntsAt.nil _ _⟩, hb⟩
  have d1 : decide (128 ≤ (rdB s.data.toList j : Int)) = false := by simp; omega
  have HLAST : Hid (rdB s.data.toList (s.size - 1) < 128) := Lib.hid (by rw [hj, Nat.add_sub_cancel]; omega)
  have HPOS : Hid (¬ (s.size = 0 ∨ 128 ≤ rdB s.data.toList (s.size - 1))) := Lib.hid (by rw [hj, Nat.add_sub_cancel]; omega)
  have HAT := Lib.hid (fun k (h : k < s.size) => rd_at s k h)
  have HLT := Lib.hid (fun k => rdB_lt s.data.toList k)
  have HSZ := Lib.hid hs
  clear hl hj c1 hs
  generalize rdB s.data.toList j = bj at tj hj256 d1
  go_enter Try.func28, Try.ntmps28
  go_wp2_with fail
  clear tj hj256 d1 j1 j2 j3 q0
  generalize hBB : w.heap.size = B at *
  have HBB := Lib.hid hBB
  clear hBB
  go_loopw [4, 5, 6, 7, 8] (fun lv nv mv bv iv wr => ∃ (k n m : Nat) (big : Bool) (acc : List Nat) (ao : Option Addr) (ln cp : Nat), k ≤ s.size ∧ RoInv s k n m big acc ∧ acc.length = ln ∧ lv = .slice ao ln cp ∧ nv = .int .i64 (n : Int) ∧ mv = .int .i64 (m : Int) ∧ bv = .bool big ∧ iv = .int .i64 (k : Int) ∧ Own wr B (.slice ao ln cp) (iCells (nats acc)) ∧ Below B w wr ∧ B ≤ wr.heap.size) (fun _ _ _ _ iv _ => s.size - (intOf iv).toNat)
  case atStart => exact ⟨0, 0, 0, false, [], none, 0, 0, by omega, ro_start s, rfl, rfl, rfl, rfl, rfl, rfl, Own.nil _ _, hb, by rw [← HBB.out]; exact hb.size⟩
  case round =>
    clear hb
    obtain ⟨k, n, m, big, acc, ao, ln, cp, hk, hinv, hln, rfl, rfl, rfl, rfl, rfl, hown, hb, hB⟩ := hrel
    have HI := Lib.hid hinv
    have HO := Lib.hid hown
    have hn0 := hinv.2.1
    have hm0 := hinv.2.2.2.1
    have ha0 := hinv.2.2.2.2.1
    have hs := HSZ.out
    have HL := Lib.hid hln
    have hlk : ln ≤ k := by omega
    have hk6 : k ≤ 1000000 := by omega
    clear hinv hown hln ha0
    by_cases hlt : k < s.size
    · have hd : decide ((k : Int) < (s.size : Int)) = true := by simp; omega
      have hik : (k : Int) < (s.size : Int) := by omega
      have tk := HAT.out k hlt
      have hb256 := HLT.out k
      have wm : wrap64 ((m : Int) + 1) = (m : Int) + 1 := by unfold wrap64; omega
      obtain ⟨b, hbb⟩ : ∃ b, rdB s.data.toList k = b := ⟨_, rfl⟩
      rw [hbb] at tk hb256
      have HBK := Lib.hid hbb
      clear hbb hs
      by_cases cm : m = 0
      · skip
        have dm : ((m : Int) == 0) = true := by simp; omega
        by_cases cb : b = 128
        · have db : ((b : Int) == 128) = true := by simp; omega
          have HE := Lib.hid (ro_err s 11 (by rw [roErr, if_neg HPOS.out, ro_stop s k n m big acc HI.out cm hlt (by rw [HBK.out]; exact cb)]) (by decide))
          clear HI HO HPOS HLAST HBK cb cm
          go_wp2_with fail
          go_ret2
          exact ⟨⟨none, 0, by rw [HE.out.1, HE.out.2]; rfl, by rw [HE.out.1]; exact IntsAt.nil _ _⟩, by rw [HBB.out]; exact hb⟩
        · have db : ((b : Int) == 128) = false := by simp; omega
          have HNS : Hid (¬ (m = 0 ∧ rdB s.data.toList k = 128)) := Lib.hid (fun h => cb (by rw [← HBK.out]; exact h.2))
          clear cm cb
          cases big with
          | true =>
            have HNX0 := Lib.hid (ro_next s k n m _ true acc n HI.out hlt HNS.out (by rfl) (by rw [HBK.out]; exact (if_pos rfl).symm))
            rw [HBK.out] at HNX0
            clear HI HNS HBK HLAST HPOS HAT HLT HSZ HBB
            by_cases c2 : b < 128
            · have d2 : decide ((b : Int) < 128) = true := decide_eq_true (by omega)
              have HNX := Lib.hid (HNX0.out.1 c2)
              clear HNX0
              have HC : Hid (iCells (nats (acc ++ [n])) = iCells (nats acc) ++ [.int .i64 ((n : Nat) : Int)]) := Lib.hid (by rw [nats_snoc, iCells_append, iCells_one])
              go_wp2_with (at_builtin; refine wpList_append_sl rfl (.tmp 56) (.tmp 58) 34 rfl B 3 i0 (.int .i64 0) 8 Try.underlying34 hi hz0 hz1 hz2 rfl ao ln cp (iCells (nats acc)) rfl (HO.out.alloc _) (by rw [iCells_length, nats_length]; exact HL.out) ⟨_, 0, none⟩ 1 1 [.int .i64 _] rfl rfl (cell_int_new _ _ _) ?p2 ?p3 ?p4 ?p5 ?_)
              case p2 => intro u hu; simp at hu; subst hu; rfl
              case p3 => omega
              case p4 => omega
              case p5 => simp; omega
              intro ao7 cp7 W7 hown7 hgrow7
              have hb7 : Below B wr W7 := below_append ((Below.refl B wr).alloc hB _) (by simp; omega) (HO.out.alloc _) hgrow7
              have hB7 : B ≤ W7.heap.size := by have := hgrow7.size; simp at this; omega
              have hown8 : Own W7 B (.slice ao7 (ln + 1) cp7) (iCells (nats (acc ++ [n]))) := by rw [HC.out]; exact own_last hown7 (by first | rfl | (unfold wrap64; omega))
              have hb8 := hb.trans hb7
              clear hown7 hgrow7 HC HO hb hb7
              go_wp2_with fail
              go_roundw
              case rel => exact ⟨k + 1, 0, 0, _, _, ao7, ln + 1, cp7, by omega, HNX.out, by rw [List.length_append, HL.out]; rfl, rfl, rfl, rfl, rfl, by go_num, hown8, hb8, hB7⟩
              case measure => simp [intOf]; omega
            · have d2 : decide ((b : Int) < 128) = false := decide_eq_false (by omega)
              have HNX := Lib.hid (HNX0.out.2 (by omega))
              clear HNX0
              have hown8 := HO.out
              clear HO
              go_wp2_with fail
              go_roundw
              case rel => exact ⟨k + 1, n, m + 1, _, acc, ao, ln, cp, by omega, HNX.out, HL.out, rfl, by first | rfl | (congr 1; unfold wrap64; omega), by go_num, rfl, by go_num, hown8, hb, hB⟩
              case measure => simp [intOf]; omega
          | false =>
            by_cases c4 : 4 < m + 1
            · have d4 : decide ((4 : Int) < (m : Int) + 1) = true := by simp; omega
              have HNX0 := Lib.hid (ro_next s k n m _ true acc n HI.out hlt HNS.out (by rw [decide_eq_true c4]; rfl) (by rw [HBK.out]; exact (if_pos rfl).symm))
              rw [HBK.out] at HNX0
              clear HI HNS HBK HLAST HPOS HAT HLT HSZ HBB
              by_cases c2 : b < 128
              · have d2 : decide ((b : Int) < 128) = true := decide_eq_true (by omega)
                have HNX := Lib.hid (HNX0.out.1 c2)
                clear HNX0
                have HC : Hid (iCells (nats (acc ++ [n])) = iCells (nats acc) ++ [.int .i64 ((n : Nat) : Int)]) := Lib.hid (by rw [nats_snoc, iCells_append, iCells_one])
                go_wp2_with (at_builtin; refine wpList_append_sl rfl (.tmp 56) (.tmp 58) 34 rfl B 3 i0 (.int .i64 0) 8 Try.underlying34 hi hz0 hz1 hz2 rfl ao ln cp (iCells (nats acc)) rfl (HO.out.alloc _) (by rw [iCells_length, nats_length]; exact HL.out) ⟨_, 0, none⟩ 1 1 [.int .i64 _] rfl rfl (cell_int_new _ _ _) ?p2 ?p3 ?p4 ?p5 ?_)
                case p2 => intro u hu; simp at hu; subst hu; rfl
                case p3 => omega
                case p4 => omega
                case p5 => simp; omega
                intro ao7 cp7 W7 hown7 hgrow7
                have hb7 : Below B wr W7 := below_append ((Below.refl B wr).alloc hB _) (by simp; omega) (HO.out.alloc _) hgrow7
                have hB7 : B ≤ W7.heap.size := by have := hgrow7.size; simp at this; omega
                have hown8 : Own W7 B (.slice ao7 (ln + 1) cp7) (iCells (nats (acc ++ [n]))) := by rw [HC.out]; exact own_last hown7 (by first | rfl | (unfold wrap64; omega))
                have hb8 := hb.trans hb7
                clear hown7 hgrow7 HC HO hb hb7
                go_wp2_with fail
                go_roundw
                case rel => exact ⟨k + 1, 0, 0, _, _, ao7, ln + 1, cp7, by omega, HNX.out, by rw [List.length_append, HL.out]; rfl, rfl, rfl, rfl, rfl, by go_num, hown8, hb8, hB7⟩
                case measure => simp [intOf]; omega
              · have d2 : decide ((b : Int) < 128) = false := decide_eq_false (by omega)
                have HNX := Lib.hid (HNX0.out.2 (by omega))
                clear HNX0
                have hown8 := HO.out
                clear HO
                go_wp2_with fail
                go_roundw
                case rel => exact ⟨k + 1, n, m + 1, _, acc, ao, ln, cp, by omega, HNX.out, HL.out, rfl, by first | rfl | (congr 1; unfold wrap64; omega), by go_num, rfl, by go_num, hown8, hb, hB⟩
                case measure => simp [intOf]; omega
            · have d4 : decide ((4 : Int) < (m : Int) + 1) = false := by simp; omega
              have HNX0 := Lib.hid (ro_next s k n m _ false acc (128 * n + b % 128) HI.out hlt HNS.out (by rw [decide_eq_false c4]; rfl) (by rw [HBK.out]; exact (if_neg Bool.false_ne_true).symm))
              rw [HBK.out] at HNX0
              clear HI HNS HBK HLAST HPOS HAT HLT HSZ HBB
              by_cases c2 : b < 128
              · have d2 : decide ((b : Int) < 128) = true := decide_eq_true (by omega)
                have HNX := Lib.hid (HNX0.out.1 c2)
                clear HNX0
                have HC : Hid (iCells (nats (acc ++ [(128 * n + b % 128)])) = iCells (nats acc) ++ [.int .i64 (((128 * n + b % 128) : Nat) : Int)]) := Lib.hid (by rw [nats_snoc, iCells_append, iCells_one])
                go_wp2_with (at_builtin; refine wpList_append_sl rfl (.tmp 56) (.tmp 58) 34 rfl B 3 i0 (.int .i64 0) 8 Try.underlying34 hi hz0 hz1 hz2 rfl ao ln cp (iCells (nats acc)) rfl (HO.out.alloc _) (by rw [iCells_length, nats_length]; exact HL.out) ⟨_, 0, none⟩ 1 1 [.int .i64 _] rfl rfl (cell_int_new _ _ _) ?p2 ?p3 ?p4 ?p5 ?_)
                case p2 => intro u hu; simp at hu; subst hu; rfl
                case p3 => omega
                case p4 => omega
                case p5 => simp; omega
                intro ao7 cp7 W7 hown7 hgrow7
                have hb7 : Below B wr W7 := below_append ((Below.refl B wr).alloc hB _) (by simp; omega) (HO.out.alloc _) hgrow7
                have hB7 : B ≤ W7.heap.size := by have := hgrow7.size; simp at this; omega
                have hown8 : Own W7 B (.slice ao7 (ln + 1) cp7) (iCells (nats (acc ++ [(128 * n + b % 128)]))) := by rw [HC.out]; exact own_last hown7 (by first | rfl | (unfold wrap64; omega))
                have hb8 := hb.trans hb7
                clear hown7 hgrow7 HC HO hb hb7
                go_wp2_with fail
                go_roundw
                case rel => exact ⟨k + 1, 0, 0, _, _, ao7, ln + 1, cp7, by omega, HNX.out, by rw [List.length_append, HL.out]; rfl, rfl, rfl, rfl, rfl, by go_num, hown8, hb8, hB7⟩
                case measure => simp [intOf]; omega
              · have d2 : decide ((b : Int) < 128) = false := decide_eq_false (by omega)
                have HNX := Lib.hid (HNX0.out.2 (by omega))
                clear HNX0
                have hown8 := HO.out
                clear HO
                go_wp2_with fail
                go_roundw
                case rel => exact ⟨k + 1, (128 * n + b % 128), m + 1, _, acc, ao, ln, cp, by omega, HNX.out, HL.out, rfl, by first | rfl | (congr 1; unfold wrap64; omega), by go_num, rfl, by go_num, hown8, hb, hB⟩
                case measure => simp [intOf]; omega
      · have dm : ((m : Int) == 0) = false := by simp; omega
        have HNS : Hid (¬ (m = 0 ∧ rdB s.data.toList k = 128)) := Lib.hid (fun h => cm h.1)
        clear cm
        cases big with
        | true =>
          have HNX0 := Lib.hid (ro_next s k n m _ true acc n HI.out hlt HNS.out (by rfl) (by rw [HBK.out]; exact (if_pos rfl).symm))
          rw [HBK.out] at HNX0
          clear HI HNS HBK HLAST HPOS HAT HLT HSZ HBB
          by_cases c2 : b < 128
          · have d2 : decide ((b : Int) < 128) = true := decide_eq_true (by omega)
            have HNX := Lib.hid (HNX0.out.1 c2)
            clear HNX0
            have HC : Hid (iCells (nats (acc ++ [n])) = iCells (nats acc) ++ [.int .i64 ((n : Nat) : Int)]) := Lib.hid (by rw [nats_snoc, iCells_append, iCells_one])
            go_wp2_with (at_builtin; refine wpList_append_sl rfl (.tmp 56) (.tmp 58) 34 rfl B 3 i0 (.int .i64 0) 8 Try.underlying34 hi hz0 hz1 hz2 rfl ao ln cp (iCells (nats acc)) rfl (HO.out.alloc _) (by rw [iCells_length, nats_length]; exact HL.out) ⟨_, 0, none⟩ 1 1 [.int .i64 _] rfl rfl (cell_int_new _ _ _) ?p2 ?p3 ?p4 ?p5 ?_)
            case p2 => intro u hu; simp at hu; subst hu; rfl
            case p3 => omega
            case p4 => omega
            case p5 => simp; omega
            intro ao7 cp7 W7 hown7 hgrow7
            have hb7 : Below B wr W7 := below_append ((Below.refl B wr).alloc hB _) (by simp; omega) (HO.out.alloc _) hgrow7
            have hB7 : B ≤ W7.heap.size := by have := hgrow7.size; simp at this; omega
            have hown8 : Own W7 B (.slice ao7 (ln + 1) cp7) (iCells (nats (acc ++ [n]))) := by rw [HC.out]; exact own_last hown7 (by first | rfl | (unfold wrap64; omega))
            have hb8 := hb.trans hb7
            clear hown7 hgrow7 HC HO hb hb7
            go_wp2_with fail
            go_roundw
            case rel => exact ⟨k + 1, 0, 0, _, _, ao7, ln + 1, cp7, by omega, HNX.out, by rw [List.length_append, HL.out]; rfl, rfl, rfl, rfl, rfl, by go_num, hown8, hb8, hB7⟩
            case measure => simp [intOf]; omega
          · have d2 : decide ((b : Int) < 128) = false := decide_eq_false (by omega)
            have HNX := Lib.hid (HNX0.out.2 (by omega))
            clear HNX0
            have hown8 := HO.out
            clear HO
            go_wp2_with fail
            go_roundw
            case rel => exact ⟨k + 1, n, m + 1, _, acc, ao, ln, cp, by omega, HNX.out, HL.out, rfl, by first | rfl | (congr 1; unfold wrap64; omega), by go_num, rfl, by go_num, hown8, hb, hB⟩
            case measure => simp [intOf]; omega
        | false =>
          by_cases c4 : 4 < m + 1
          · have d4 : decide ((4 : Int) < (m : Int) + 1) = true := by simp; omega
            have HNX0 := Lib.hid (ro_next s k n m _ true acc n HI.out hlt HNS.out (by rw [decide_eq_true c4]; rfl) (by rw [HBK.out]; exact (if_pos rfl).symm))
            rw [HBK.out] at HNX0
            clear HI HNS HBK HLAST HPOS HAT HLT HSZ HBB
            by_cases c2 : b < 128
            · have d2 : decide ((b : Int) < 128) = true := decide_eq_true (by omega)
              have HNX := Lib.hid (HNX0.out.1 c2)
              clear HNX0
              have HC : Hid (iCells (nats (acc ++ [n])) = iCells (nats acc) ++ [.int .i64 ((n : Nat) : Int)]) := Lib.hid (by rw [nats_snoc, iCells_append, iCells_one])
              go_wp2_with (at_builtin; refine wpList_append_sl rfl (.tmp 56) (.tmp 58) 34 rfl B 3 i0 (.int .i64 0) 8 Try.underlying34 hi hz0 hz1 hz2 rfl ao ln cp (iCells (nats acc)) rfl (HO.out.alloc _) (by rw [iCells_length, nats_length]; exact HL.out) ⟨_, 0, none⟩ 1 1 [.int .i64 _] rfl rfl (cell_int_new _ _ _) ?p2 ?p3 ?p4 ?p5 ?_)
              case p2 => intro u hu; simp at hu; subst hu; rfl
              case p3 => omega
              case p4 => omega
              case p5 => simp; omega
              intro ao7 cp7 W7 hown7 hgrow7
              have hb7 : Below B wr W7 := below_append ((Below.refl B wr).alloc hB _) (by simp; omega) (HO.out.alloc _) hgrow7
              have hB7 : B ≤ W7.heap.size := by have := hgrow7.size; simp at this; omega
              have hown8 : Own W7 B (.slice ao7 (ln + 1) cp7) (iCells (nats (acc ++ [n]))) := by rw [HC.out]; exact own_last hown7 (by first | rfl | (unfold wrap64; omega))
              have hb8 := hb.trans hb7
              clear hown7 hgrow7 HC HO hb hb7
              go_wp2_with fail
              go_roundw
              case rel => exact ⟨k + 1, 0, 0, _, _, ao7, ln + 1, cp7, by omega, HNX.out, by rw [List.length_append, HL.out]; rfl, rfl, rfl, rfl, rfl, by go_num, hown8, hb8, hB7⟩
              case measure => simp [intOf]; omega
            · have d2 : decide ((b : Int) < 128) = false := decide_eq_false (by omega)
              have HNX := Lib.hid (HNX0.out.2 (by omega))
              clear HNX0
              have hown8 := HO.out
              clear HO
              go_wp2_with fail
              go_roundw
              case rel => exact ⟨k + 1, n, m + 1, _, acc, ao, ln, cp, by omega, HNX.out, HL.out, rfl, by first | rfl | (congr 1; unfold wrap64; omega), by go_num, rfl, by go_num, hown8, hb, hB⟩
              case measure => simp [intOf]; omega
          · have d4 : decide ((4 : Int) < (m : Int) + 1) = false := by simp; omega
            have HNX0 := Lib.hid (ro_next s k n m _ false acc (128 * n + b % 128) HI.out hlt HNS.out (by rw [decide_eq_false c4]; rfl) (by rw [HBK.out]; exact (if_neg Bool.false_ne_true).symm))
            rw [HBK.out] at HNX0
            clear HI HNS HBK HLAST HPOS HAT HLT HSZ HBB
            by_cases c2 : b < 128
            · have d2 : decide ((b : Int) < 128) = true := decide_eq_true (by omega)
              have HNX := Lib.hid (HNX0.out.1 c2)
              clear HNX0
              have HC : Hid (iCells (nats (acc ++ [(128 * n + b % 128)])) = iCells (nats acc) ++ [.int .i64 (((128 * n + b % 128) : Nat) : Int)]) := Lib.hid (by rw [nats_snoc, iCells_append, iCells_one])
              go_wp2_with (at_builtin; refine wpList_append_sl rfl (.tmp 56) (.tmp 58) 34 rfl B 3 i0 (.int .i64 0) 8 Try.underlying34 hi hz0 hz1 hz2 rfl ao ln cp (iCells (nats acc)) rfl (HO.out.alloc _) (by rw [iCells_length, nats_length]; exact HL.out) ⟨_, 0, none⟩ 1 1 [.int .i64 _] rfl rfl (cell_int_new _ _ _) ?p2 ?p3 ?p4 ?p5 ?_)
              case p2 => intro u hu; simp at hu; subst hu; rfl
              case p3 => omega
              case p4 => omega
              case p5 => simp; omega
              intro ao7 cp7 W7 hown7 hgrow7
              have hb7 : Below B wr W7 := below_append ((Below.refl B wr).alloc hB _) (by simp; omega) (HO.out.alloc _) hgrow7
              have hB7 : B ≤ W7.heap.size := by have := hgrow7.size; simp at this; omega
              have hown8 : Own W7 B (.slice ao7 (ln + 1) cp7) (iCells (nats (acc ++ [(128 * n + b % 128)]))) := by rw [HC.out]; exact own_last hown7 (by first | rfl | (unfold wrap64; omega))
              have hb8 := hb.trans hb7
              clear hown7 hgrow7 HC HO hb hb7
              go_wp2_with fail
              go_roundw
              case rel => exact ⟨k + 1, 0, 0, _, _, ao7, ln + 1, cp7, by omega, HNX.out, by rw [List.length_append, HL.out]; rfl, rfl, rfl, rfl, rfl, by go_num, hown8, hb8, hB7⟩
              case measure => simp [intOf]; omega
            · have d2 : decide ((b : Int) < 128) = false := decide_eq_false (by omega)
              have HNX := Lib.hid (HNX0.out.2 (by omega))
              clear HNX0
              have hown8 := HO.out
              clear HO
              go_wp2_with fail
              go_roundw
              case rel => exact ⟨k + 1, (128 * n + b % 128), m + 1, _, acc, ao, ln, cp, by omega, HNX.out, HL.out, rfl, by first | rfl | (congr 1; unfold wrap64; omega), by go_num, rfl, by go_num, hown8, hb, hB⟩
              case measure => simp [intOf]; omega
    · have hd : decide ((k : Int) < (s.size : Int)) = false := by simp; omega
      obtain rfl : k = s.size := by omega
      have HR := Lib.hid (ro_end s n m big acc HI.out)
      have HNE := Lib.hid (HI.out.2.2.2.2.2.2 (by omega) HLAST.out)
      have HB6 := Lib.hid HI.out.2.2.2.2.2.1
      clear HI HLAST
      cases big with
      | true =>
        have HE := Lib.hid (ro_err s 13 (by rw [roErr, if_neg HPOS.out, HR.out]; exact if_pos (.inl rfl)) (by decide))
        clear HR HNE HB6 HO HPOS
        go_wp2_with fail
        go_ret2
        exact ⟨⟨none, 0, by rw [HE.out.1, HE.out.2]; rfl, by rw [HE.out.1]; exact IntsAt.nil _ _⟩, by rw [HBB.out]; exact hb⟩
      | false =>
        by_cases c19 : 19 < ln
        · have d19 : decide ((19 : Int) < (ln : Int)) = true := by simp; omega
          have HE := Lib.hid (ro_err s 13 (by rw [roErr, if_neg HPOS.out, HR.out]; exact if_pos (.inr (by rw [HL.out]; exact c19))) (by decide))
          clear HR HNE HB6 HO HPOS
          go_wp2_with fail
          go_ret2
          exact ⟨⟨none, 0, by rw [HE.out.1, HE.out.2]; rfl, by rw [HE.out.1]; exact IntsAt.nil _ _⟩, by rw [HBB.out]; exact hb⟩
        have d19 : decide ((19 : Int) < (ln : Int)) = false := by simp; omega
        have HE : Hid (roErr s = 0) := Lib.hid (by rw [roErr, if_neg HPOS.out, HR.out]; exact if_neg (by rw [HL.out]; simp; omega))
        have HV : Hid (roV s = namesOf acc) := Lib.hid (by rw [roV, if_pos HE.out, HR.out])
        clear HR HPOS
        match acc, HNE, HB6, HL, HO, HV with
        | [], HNE, _, _, _, _ => exact absurd rfl HNE.out
        | v :: r, _, HB6, HL, HO, HV =>
          have hv := HB6.out v (by simp)
          have hln1 : r.length + 1 = ln := HL.out
          obtain ⟨g, cq, e, hoG, hgl⟩ := HO.out.some (by rw [iCells_length, nats_length, HL.out]; omega)
          rw [iCells_length, nats_length, HL.out] at e
          cases e
          have c0 : wr.cell? ⟨g, 0, none⟩ = some (.int .i64 (v : Int)) := hoG.cells 0 _ rfl
          have hle : ln ≤ cp := by have := hoG.le; rwa [iCells_length, nats_length, HL.out] at this
          have hq : (0 : Int) < (ln : Int) := by omega
          have hq0 : 0 < ln := by omega
          have hq1 : (1 : Int) ≤ (ln : Int) := by omega
          have hq2 : (ln : Int) ≤ (cp : Int) := by omega
          have HG := Lib.hid hoG
          clear hoG HO
          have HRL : Hid ((iCells (nats r)).length = ln - 1) := Lib.hid (by rw [iCells_length, nats_length]; omega)
          have hln0 : ln ≤ 19 := by omega
          by_cases hm : (2 : Int) < (v : Int) / 40
          · skip
            by_cases hc : cp = 1
            · have hl1 : ln = 1 := by omega
              have HVV : Hid (roV s = [2, (v : Int) - 80] ++ nats r) := Lib.hid (by
                rw [HV.out, namesOf, firstOf]
                by_cases c : v / 40 < 2
                · first
                  | (exfalso; omega)
                  | (rw [if_pos c, show ((v / 40 : Nat) : Int) = 2 by omega, show ((v % 40 : Nat) : Int) = (v : Int) - 80 by omega]; rfl)
                · rw [if_neg c, show (2 : Int) = 2 by omega, show (v : Int) - 80 = (v : Int) - 80 by omega]; rfl)
              have HO2 := Lib.hid (own_of_row (show (wr.alloc (.cells #[.int .i64 (2), .int .i64 ((v : Int) - 80)] 3)).ownsRow B 3 1 (.slice (some ⟨wr.heap.size, 0, none⟩) 2 2) 2 [.int .i64 (2), .int .i64 ((v : Int) - 80)] from ⟨rfl, .inr ⟨wr.heap.size, 2, _, rfl, hB, blk_new wr _, by omega, by unfold maxLen; omega, rfl, rfl⟩⟩)).1
              have HNW := Lib.hid (show ∀ j u, (iCells (nats r))[j]? = some u → (wr.alloc (.cells #[.int .i64 (2), .int .i64 ((v : Int) - 80)] 3)).cell? ((⟨g, 0, none⟩ : Addr).add j) = some u from fun j u hj => by
                have : r = [] := List.length_eq_zero_iff.1 (by omega)
                subst this
                cases hj)
              clear HG HB6 HV HL c19 hln1
              have hb7 : Below B wr (wr.alloc (.cells #[.int .i64 (2), .int .i64 ((v : Int) - 80)] 3)) := (Below.refl B wr).alloc hB _
              have hb8 := hb.trans hb7
              have HR0 : Hid (iCells (nats r) = []) := Lib.hid (List.length_eq_zero_iff.1 (by rw [HRL.out]; omega))
              have HF := Lib.hid (show Own (wr.alloc (.cells #[.int .i64 (2), .int .i64 ((v : Int) - 80)] 3)) B (.slice (some ⟨wr.heap.size, 0, none⟩) 2 2) (iCells (roV s)) from by rw [HVV.out, iCells_append, HR0.out, List.append_nil]; exact HO2.out)
              have HRV : Hid ((roV s).length = 2) := Lib.hid (by rw [HVV.out, List.length_append, ← iCells_length (nats r), HR0.out]; rfl)
              clear hb7 HO2 HNW hb HRL hle hq hq0 hq1 hq2 hln0
              subst hc hl1
              go_wp2_with fail
              go_ret2
              first
                | exact ⟨⟨_, 2, by rw [HE.out, HRV.out]; rfl, IntsAt.own HF.out HRV.out⟩, by rw [HBB.out]; exact hb8⟩
                | exact ⟨⟨_, ⟨2, by rw [HE.out, HRV.out]; rfl⟩, IntsAt.own HF.out HRV.out⟩, by rw [HBB.out]; exact hb8⟩
            · skip
              have HVV : Hid (roV s = [2, (v : Int) - 80] ++ nats r) := Lib.hid (by
                rw [HV.out, namesOf, firstOf]
                by_cases c : v / 40 < 2
                · first
                  | (exfalso; omega)
                  | (rw [if_pos c, show ((v / 40 : Nat) : Int) = 2 by omega, show ((v % 40 : Nat) : Int) = (v : Int) - 80 by omega]; rfl)
                · rw [if_neg c, show (2 : Int) = 2 by omega, show (v : Int) - 80 = (v : Int) - 80 by omega]; rfl)
              have HO2 := Lib.hid (own_of_row (show (wr.alloc (.cells #[.int .i64 (2), .int .i64 ((v : Int) - 80)] 3)).ownsRow B 3 1 (.slice (some ⟨wr.heap.size, 0, none⟩) 2 2) 2 [.int .i64 (2), .int .i64 ((v : Int) - 80)] from ⟨rfl, .inr ⟨wr.heap.size, 2, _, rfl, hB, blk_new wr _, by omega, by unfold maxLen; omega, rfl, rfl⟩⟩)).1
              have HNW := Lib.hid (show ∀ j u, (iCells (nats r))[j]? = some u → (wr.alloc (.cells #[.int .i64 (2), .int .i64 ((v : Int) - 80)] 3)).cell? ((⟨g, 1, none⟩ : Addr).add j) = some u from fun j u hj => by
                have hadd : (⟨g, 1, none⟩ : Addr).add j = ⟨g, j + 1, none⟩ := by
                  have : (⟨g, 1, none⟩ : Addr).add j = ⟨g, 1 + j, none⟩ := by unfold Addr.add; split <;> simp_all
                  rw [this, Nat.add_comm]
                rw [hadd, (below_new wr _).cell hgl]
                exact HG.out.cells (j + 1) u hj)
              clear HG HB6 HV HL c19 hln1
              go_wp2_with (at_builtin; refine wpList_append_sl rfl (.tmp 79) (.tmp 81) 34 rfl B 3 i0 (.int .i64 0) 8 Try.underlying34 hi hz0 hz1 hz2 rfl (some ⟨wr.heap.size, 0, none⟩) 2 2 [.int .i64 (2), .int .i64 ((v : Int) - 80)] rfl HO2.out rfl ⟨g, 1, none⟩ (ln - 1) (cp - 1) (iCells (nats r)) rfl HRL.out HNW.out ?p2 ?p3 ?p4 ?p5 ?_)
              case p2 => intro u hu; simp [iCells] at hu; obtain ⟨x, _, rfl⟩ := hu; rfl
              case p3 => omega
              case p4 => omega
              case p5 => first | (simp; omega) | omega | exact Nat.le_trans hB (below_new wr _).size
              intro ao7 cp7 W7 hown7 hgrow7
              have hb7 : Below B wr W7 := below_append ((Below.refl B wr).alloc hB _) (by simp; omega) HO2.out hgrow7
              have hb8 := hb.trans hb7
              have HF := Lib.hid (show Own W7 B (.slice ao7 (2 + (ln - 1)) cp7) (iCells (roV s)) from by rw [HVV.out, iCells_append]; exact hown7)
              have HRV : Hid ((roV s).length = 2 + (ln - 1)) := Lib.hid (by rw [HVV.out, List.length_append, ← iCells_length (nats r), HRL.out]; rfl)
              clear hown7 hgrow7 hb7 HO2 HNW hb
              go_wp2_with fail
              go_ret2
              first
                | exact ⟨⟨ao7, cp7, by rw [HE.out, HRV.out]; rfl, IntsAt.own HF.out HRV.out⟩, by rw [HBB.out]; exact hb8⟩
                | exact ⟨⟨ao7, ⟨cp7, by rw [HE.out, HRV.out]; rfl⟩, IntsAt.own HF.out HRV.out⟩, by rw [HBB.out]; exact hb8⟩
          · have hm2 : (v : Int) / 40 ≤ 2 := by omega
            by_cases hc : cp = 1
            · have hl1 : ln = 1 := by omega
              have HVV : Hid (roV s = [(v : Int) / 40, (v : Int) - 40 * ((v : Int) / 40)] ++ nats r) := Lib.hid (by
                rw [HV.out, namesOf, firstOf]
                by_cases c : v / 40 < 2
                · first
                  | (exfalso; omega)
                  | (rw [if_pos c, show ((v / 40 : Nat) : Int) = (v : Int) / 40 by omega, show ((v % 40 : Nat) : Int) = (v : Int) - 40 * ((v : Int) / 40) by omega]; rfl)
                · rw [if_neg c, show (2 : Int) = (v : Int) / 40 by omega, show (v : Int) - 80 = (v : Int) - 40 * ((v : Int) / 40) by omega]; rfl)
              have HO2 := Lib.hid (own_of_row (show (wr.alloc (.cells #[.int .i64 ((v : Int) / 40), .int .i64 ((v : Int) - 40 * ((v : Int) / 40))] 3)).ownsRow B 3 1 (.slice (some ⟨wr.heap.size, 0, none⟩) 2 2) 2 [.int .i64 ((v : Int) / 40), .int .i64 ((v : Int) - 40 * ((v : Int) / 40))] from ⟨rfl, .inr ⟨wr.heap.size, 2, _, rfl, hB, blk_new wr _, by omega, by unfold maxLen; omega, rfl, rfl⟩⟩)).1
              have HNW := Lib.hid (show ∀ j u, (iCells (nats r))[j]? = some u → (wr.alloc (.cells #[.int .i64 ((v : Int) / 40), .int .i64 ((v : Int) - 40 * ((v : Int) / 40))] 3)).cell? ((⟨g, 0, none⟩ : Addr).add j) = some u from fun j u hj => by
                have : r = [] := List.length_eq_zero_iff.1 (by omega)
                subst this
                cases hj)
              clear HG HB6 HV HL c19 hln1
              have hb7 : Below B wr (wr.alloc (.cells #[.int .i64 ((v : Int) / 40), .int .i64 ((v : Int) - 40 * ((v : Int) / 40))] 3)) := (Below.refl B wr).alloc hB _
              have hb8 := hb.trans hb7
              have HR0 : Hid (iCells (nats r) = []) := Lib.hid (List.length_eq_zero_iff.1 (by rw [HRL.out]; omega))
              have HF := Lib.hid (show Own (wr.alloc (.cells #[.int .i64 ((v : Int) / 40), .int .i64 ((v : Int) - 40 * ((v : Int) / 40))] 3)) B (.slice (some ⟨wr.heap.size, 0, none⟩) 2 2) (iCells (roV s)) from by rw [HVV.out, iCells_append, HR0.out, List.append_nil]; exact HO2.out)
              have HRV : Hid ((roV s).length = 2) := Lib.hid (by rw [HVV.out, List.length_append, ← iCells_length (nats r), HR0.out]; rfl)
              clear hb7 HO2 HNW hb HRL hle hq hq0 hq1 hq2 hln0
              subst hc hl1
              go_wp2_with fail
              go_ret2
              first
                | exact ⟨⟨_, 2, by rw [HE.out, HRV.out]; rfl, IntsAt.own HF.out HRV.out⟩, by rw [HBB.out]; exact hb8⟩
                | exact ⟨⟨_, ⟨2, by rw [HE.out, HRV.out]; rfl⟩, IntsAt.own HF.out HRV.out⟩, by rw [HBB.out]; exact hb8⟩
            · skip
              have HVV : Hid (roV s = [(v : Int) / 40, (v : Int) - 40 * ((v : Int) / 40)] ++ nats r) := Lib.hid (by
                rw [HV.out, namesOf, firstOf]
                by_cases c : v / 40 < 2
                · first
                  | (exfalso; omega)
                  | (rw [if_pos c, show ((v / 40 : Nat) : Int) = (v : Int) / 40 by omega, show ((v % 40 : Nat) : Int) = (v : Int) - 40 * ((v : Int) / 40) by omega]; rfl)
                · rw [if_neg c, show (2 : Int) = (v : Int) / 40 by omega, show (v : Int) - 80 = (v : Int) - 40 * ((v : Int) / 40) by omega]; rfl)
              have HO2 := Lib.hid (own_of_row (show (wr.alloc (.cells #[.int .i64 ((v : Int) / 40), .int .i64 ((v : Int) - 40 * ((v : Int) / 40))] 3)).ownsRow B 3 1 (.slice (some ⟨wr.heap.size, 0, none⟩) 2 2) 2 [.int .i64 ((v : Int) / 40), .int .i64 ((v : Int) - 40 * ((v : Int) / 40))] from ⟨rfl, .inr ⟨wr.heap.size, 2, _, rfl, hB, blk_new wr _, by omega, by unfold maxLen; omega, rfl, rfl⟩⟩)).1
              have HNW := Lib.hid (show ∀ j u, (iCells (nats r))[j]? = some u → (wr.alloc (.cells #[.int .i64 ((v : Int) / 40), .int .i64 ((v : Int) - 40 * ((v : Int) / 40))] 3)).cell? ((⟨g, 1, none⟩ : Addr).add j) = some u from fun j u hj => by
                have hadd : (⟨g, 1, none⟩ : Addr).add j = ⟨g, j + 1, none⟩ := by
                  have : (⟨g, 1, none⟩ : Addr).add j = ⟨g, 1 + j, none⟩ := by unfold Addr.add; split <;> simp_all
                  rw [this, Nat.add_comm]
                rw [hadd, (below_new wr _).cell hgl]
                exact HG.out.cells (j + 1) u hj)
              clear HG HB6 HV HL c19 hln1
              go_wp2_with (at_builtin; refine wpList_append_sl rfl (.tmp 79) (.tmp 81) 34 rfl B 3 i0 (.int .i64 0) 8 Try.underlying34 hi hz0 hz1 hz2 rfl (some ⟨wr.heap.size, 0, none⟩) 2 2 [.int .i64 ((v : Int) / 40), .int .i64 ((v : Int) - 40 * ((v : Int) / 40))] rfl HO2.out rfl ⟨g, 1, none⟩ (ln - 1) (cp - 1) (iCells (nats r)) rfl HRL.out HNW.out ?p2 ?p3 ?p4 ?p5 ?_)
              case p2 => intro u hu; simp [iCells] at hu; obtain ⟨x, _, rfl⟩ := hu; rfl
              case p3 => omega
              case p4 => omega
              case p5 => first | (simp; omega) | omega | exact Nat.le_trans hB (below_new wr _).size
              intro ao7 cp7 W7 hown7 hgrow7
              have hb7 : Below B wr W7 := below_append ((Below.refl B wr).alloc hB _) (by simp; omega) HO2.out hgrow7
              have hb8 := hb.trans hb7
              have HF := Lib.hid (show Own W7 B (.slice ao7 (2 + (ln - 1)) cp7) (iCells (roV s)) from by rw [HVV.out, iCells_append]; exact hown7)
              have HRV : Hid ((roV s).length = 2 + (ln - 1)) := Lib.hid (by rw [HVV.out, List.length_append, ← iCells_length (nats r), HRL.out]; rfl)
              clear hown7 hgrow7 hb7 HO2 HNW hb
              go_wp2_with fail
              go_ret2
              first
                | exact ⟨⟨ao7, cp7, by rw [HE.out, HRV.out]; rfl, IntsAt.own HF.out HRV.out⟩, by rw [HBB.out]; exact hb8⟩
                | exact ⟨⟨ao7, ⟨cp7, by rw [HE.out, HRV.out]; rfl⟩, IntsAt.own HF.out HRV.out⟩, by rw [HBB.out]; exact hb8⟩
end Go.Proofs.Ytimokmhgpigliaa
