/- Names of numbers as bytes, back and forth: groups of seven bits, what a name's body is, which name bytes are. No program. -/
import Derived.Test.YtimokmhgpigliaaDrSpec
namespace Go.Proofs.Ytimokmhgpigliaa
set_option maxRecDepth 100000
set_option linter.unusedSimpArgs false
set_option linter.unusedVariables false

/-- The groups of a number, the highest first, each with the highest bit; no more than so many. -/
def hiL : Nat → Nat → List UInt8
  | 0, _ => []
  | f + 1, n => if n = 0 then [] else hiL f (n / 128) ++ [UInt8.ofNat (128 + n % 128)]
/-- A number in groups. -/
def grL (n : Nat) : List UInt8 := hiL 9 (n / 128) ++ [UInt8.ofNat (n % 128)]
theorem hiL_zero (f : Nat) : hiL f 0 = [] := by cases f <;> rfl
theorem hiL_fuel : ∀ (f n : Nat), n < 128 ^ f → hiL (f + 1) n = hiL f n
  | 0, n, h => by obtain rfl : n = 0 := (by simpa using h); rfl
  | f + 1, n, h => by
    rw [Nat.pow_succ] at h
    rw [show hiL (f + 1 + 1) n = if n = 0 then [] else hiL (f + 1) (n / 128) ++ [UInt8.ofNat (128 + n % 128)] from rfl, show hiL (f + 1) n = if n = 0 then [] else hiL f (n / 128) ++ [UInt8.ofNat (128 + n % 128)] from rfl, hiL_fuel f (n / 128) (by omega)]
theorem hiL_fuels (n : Nat) : ∀ (f d : Nat), n < 128 ^ f → hiL (f + d) n = hiL f n
  | f, 0, _ => rfl
  | f, d + 1, h => by
    have : 128 ^ f ≤ 128 ^ (f + d) := Nat.pow_le_pow_right (by decide) (by omega)
    rw [show f + (d + 1) = (f + d) + 1 by omega, hiL_fuel _ _ (by omega), hiL_fuels n f d h]
theorem hiL_length : ∀ (f n : Nat), (hiL f n).length ≤ f
  | 0, _ => Nat.le_refl _
  | f + 1, n => by
    rw [hiL]
    split
    · simp
    · have := hiL_length f (n / 128)
      rw [List.length_append]
      simp
      exact this
theorem grL_length (n : Nat) : 1 ≤ (grL n).length ∧ (grL n).length ≤ 10 := by
  have := hiL_length 9 (n / 128)
  rw [grL, List.length_append]
  simp
  omega
/-- A group more: the number so far, times 128, and the group. -/
theorem hiL_snoc (n b : Nat) (hb : b < 128) (hp : 0 < 128 * n + b) (hn : n < 128 ^ 8) : hiL 9 (128 * n + b) = hiL 9 n ++ [UInt8.ofNat (128 + b)] := by
  rw [show hiL 9 n = hiL 8 n from hiL_fuel 8 n hn, show hiL 9 (128 * n + b) = if 128 * n + b = 0 then [] else hiL 8 ((128 * n + b) / 128) ++ [UInt8.ofNat (128 + (128 * n + b) % 128)] from rfl, if_neg (by omega),
    show (128 * n + b) / 128 = n by omega, show (128 * n + b) % 128 = b by omega]
theorem grL_snoc (n b : Nat) (hb : b < 128) : grL (128 * n + b) = hiL 9 n ++ [UInt8.ofNat b] := by
  rw [grL, show (128 * n + b) / 128 = n by omega, show (128 * n + b) % 128 = b by omega]
/-- The numbers of bytes: of the value that is being read the number and how many groups, whether one was too long, the numbers so far; none if a value begins with 128. -/
def roF : List UInt8 → Nat → Nat → Bool → List Nat → Option (List Nat × Bool)
  | [], _, _, big, acc => some (acc, big)
  | b :: r, n, many, big, acc =>
    if many = 0 ∧ b.toNat = 128 then none else
      if b.toNat < 128 then roF r 0 0 (big || decide (4 < many + 1)) (acc ++ [if (big || decide (4 < many + 1)) = true then n else 128 * n + b.toNat % 128])
      else roF r (if (big || decide (4 < many + 1)) = true then n else 128 * n + b.toNat % 128) (many + 1) (big || decide (4 < many + 1)) acc
/-- The answers of ReadOid, for any text. -/
def roR (s : ByteArray) : Option (List Nat × Bool) := roF s.data.toList 0 0 false []
def roErr (s : ByteArray) : Int :=
  if s.size = 0 ∨ 128 ≤ rdB s.data.toList (s.size - 1) then 10 else
    match roR s with
    | none => 11
    | some (acc, big) => if big = true ∨ 19 < acc.length then 13 else 0
def firstOf (v : Nat) : List Int := if v / 40 < 2 then [((v / 40 : Nat) : Int), ((v % 40 : Nat) : Int)] else [2, (v : Int) - 80]
def namesOf : List Nat → List Int
  | [] => []
  | v :: r => firstOf v ++ List.map (fun x : Nat => (x : Int)) r
def roV (s : ByteArray) : List Int := if roErr s = 0 then (match roR s with | none => [] | some (acc, _) => namesOf acc) else []
/-- The answers of Oid, for any numbers. -/
def oidErr (zs : List Int) : Int :=
  if zs.length < 2 then 1 else if (zs.any fun z => decide (z < 0)) = true then 1 else
    if 2 < zs.getD 0 0 ∨ (zs.getD 0 0 < 2 ∧ 39 < zs.getD 1 0) ∨ 1000000 < zs.getD 1 0 then 1 else
      if 20 < zs.length then 13 else if ((zs.drop 2).any fun z => decide (268435455 < z)) = true then 13 else 0
def restL (zs : List Int) : List UInt8 := zs.flatMap fun z => grL z.toNat
def oidL (zs : List Int) : List UInt8 := grL (40 * zs.getD 0 0 + zs.getD 1 0).toNat ++ restL (zs.drop 2)
def oidB (zs : List Int) : ByteArray := ⟨(oidL zs).toArray⟩
def oidX (zs : List Int) : ByteArray := if oidErr zs = 0 then wrX 6 (oidB zs) else ⟨#[]⟩
theorem restL_length : ∀ (zs : List Int), (restL zs).length ≤ 10 * zs.length
  | [] => Nat.le_refl _
  | z :: r => by
    have := restL_length r; have := (grL_length z.toNat).2
    rw [restL, List.flatMap_cons, List.length_append, List.length_cons, ← restL]
    omega
theorem oidB_size (zs : List Int) (h : zs.length ≤ 20) : (oidB zs).size ≤ 210 := by
  have a := restL_length (zs.drop 2); have b := (grL_length (40 * zs.getD 0 0 + zs.getD 1 0).toNat).2
  rw [List.length_drop] at a
  show (oidL zs).length ≤ 210
  rw [oidL, List.length_append]
  omega
theorem oid_wr (zs : List Int) (h : zs.length ≤ 20) : wrE 6 (oidB zs) = 0 := by
  have := oidB_size zs h
  rw [wrE, if_pos (by decide), if_pos (by omega)]
/-- What is read of a value's groups but the last, written: the state behind them. -/
theorem roF_hi : ∀ (f n : Nat) (r : List UInt8) (acc : List Nat), f ≤ 3 → n < 128 ^ f → ∃ m, m ≤ f ∧ (m = 0 ↔ n = 0) ∧ roF (hiL f n ++ r) 0 0 false acc = roF r n m false acc
  | 0, n, r, acc, _, h => ⟨0, Nat.le_refl _, by have h0 : n = 0 := (by simpa using h); simp [h0], by obtain rfl : n = 0 := (by simpa using h); rfl⟩
  | f + 1, n, r, acc, hf, h => by
    rw [Nat.pow_succ] at h
    by_cases c : n = 0
    · subst c; exact ⟨0, by omega, by simp, by rw [hiL_zero]; rfl⟩
    · obtain ⟨m, h1, h2, h3⟩ := roF_hi f (n / 128) ([UInt8.ofNat (128 + n % 128)] ++ r) acc (by omega) (by omega)
      have hb : (UInt8.ofNat (128 + n % 128)).toNat = 128 + n % 128 := by rw [UInt8.toNat_ofNat']; omega
      refine ⟨m + 1, by omega, by omega, ?_⟩
      rw [hiL, if_neg c, List.append_assoc, h3, List.singleton_append, roF, hb, if_neg (by omega), if_neg (by omega)]
      have hd : decide (4 < m + 1) = false := decide_eq_false (by omega)
      rw [hd, Bool.or_false, if_neg Bool.false_ne_true, show 128 * (n / 128) + (128 + n % 128) % 128 = n by omega]
theorem roF_gr (n : Nat) (h : n ≤ 268435455) (r : List UInt8) (acc : List Nat) : roF (grL n ++ r) 0 0 false acc = roF r 0 0 false (acc ++ [n]) := by
  have e3 : (128 : Nat) ^ 3 = 2097152 := by decide
  obtain ⟨m, h1, h2, h3⟩ := roF_hi 3 (n / 128) ([UInt8.ofNat (n % 128)] ++ r) acc (by omega) (by omega)
  have hb : (UInt8.ofNat (n % 128)).toNat = n % 128 := by rw [UInt8.toNat_ofNat']; omega
  have hd : decide (4 < m + 1) = false := decide_eq_false (by omega)
  rw [grL, show (9 : Nat) = 3 + 6 from rfl, hiL_fuels _ 3 6 (by omega), List.append_assoc, h3, List.singleton_append, roF, hb, if_neg (by omega), if_pos (by omega), hd, Bool.or_false, if_neg Bool.false_ne_true,
    show 128 * (n / 128) + n % 128 % 128 = n by omega]
theorem roF_rest : ∀ (ns acc : List Nat), (∀ n ∈ ns, n ≤ 268435455) → roF (ns.flatMap grL) 0 0 false acc = some (acc ++ ns, false)
  | [], acc, _ => by rw [List.append_nil]; rfl
  | n :: r, acc, h => by
    rw [List.flatMap_cons, roF_gr n (h n (by simp)), roF_rest r (acc ++ [n]) (fun x hx => h x (by simp [hx])), List.append_assoc]
    rfl
/-- What was read is what is written of it: the state says which bytes were read. -/
theorem roF_back : ∀ (r : List UInt8) (n m : Nat) (acc : List Nat) (pre : List UInt8) (out : List Nat), n < 128 ^ m → m ≤ 4 → (m = 0 ↔ n = 0) → pre = acc.flatMap grL ++ hiL 9 n → (∀ x ∈ acc, x ≤ 268435455) →
    roF r n m false acc = some (out, false) → (∀ b, (pre ++ r).getLast? = some b → b.toNat < 128) → pre ++ r = out.flatMap grL ∧ ∀ x ∈ out, x ≤ 268435455
  | [], n, m, acc, pre, out, hn, hm, hz, hp, ha, h, hl => by
    rw [roF] at h
    obtain ⟨rfl, _⟩ := Prod.mk.inj (Option.some.inj h)
    rw [List.append_nil] at *
    have hn0 : n = 0 := by
      by_cases c : n = 0
      · exact c
      · exfalso
        rw [hp, show hiL 9 n = if n = 0 then [] else hiL 8 (n / 128) ++ [UInt8.ofNat (128 + n % 128)] from rfl, if_neg c, ← List.append_assoc] at hl
        have := hl _ List.getLast?_concat
        rw [UInt8.toNat_ofNat'] at this
        omega
    subst hn0
    rw [hiL_zero, List.append_nil] at hp
    exact ⟨hp, ha⟩
  | b :: r, n, m, acc, pre, out, hn, hm, hz, hp, ha, h, hl => by
    have hb := b.toNat_lt
    have hbo : ∀ k, b.toNat = k → b = UInt8.ofNat k := fun k hk => by rw [← hk, UInt8.ofNat_toNat]
    have p4 : 128 ^ m ≤ 128 ^ 4 := Nat.pow_le_pow_right (by decide) hm
    have e4 : (128 : Nat) ^ 4 = 268435456 := by decide
    have e8 : (128 : Nat) ^ 8 = 72057594037927936 := by decide
    rw [roF] at h
    split at h
    · cases h
    rename_i h1
    by_cases c4 : 4 < m + 1
    · -- too long: it stays so
      exfalso
      rw [decide_eq_true c4, Bool.or_true] at h
      have stays : ∀ (r : List UInt8) (n m : Nat) (acc : List Nat) (out : List Nat), roF r n m true acc ≠ some (out, false) := by
        intro r
        induction r with
        | nil => intro n m acc out h; rw [roF] at h; cases h
        | cons b r ih =>
          intro n m acc out h
          rw [roF] at h
          split at h
          · cases h
          rw [Bool.true_or] at h
          split at h
          · exact ih _ _ _ _ h
          · exact ih _ _ _ _ h
      split at h
      · exact stays _ _ _ _ _ h
      · exact stays _ _ _ _ _ h
    · rw [decide_eq_false c4, Bool.or_false, if_neg Bool.false_ne_true] at h
      split at h
      · rename_i h2
        rw [Nat.mod_eq_of_lt h2] at h
        have hv : 128 * n + b.toNat ≤ 268435455 := by
          have : 128 ^ m ≤ 128 ^ 3 := Nat.pow_le_pow_right (by decide) (by omega)
          have e3 : (128 : Nat) ^ 3 = 2097152 := by decide
          omega
        have hr := roF_back r 0 0 (acc ++ [128 * n + b.toNat]) (pre ++ [b]) out (by decide) (by omega) (by simp) (by
            rw [hiL_zero, List.append_nil, List.flatMap_append, List.flatMap_cons, List.flatMap_nil, List.append_nil, grL_snoc n b.toNat h2, ← List.append_assoc, ← hp, ← hbo _ rfl]) (fun x hx => by
            rcases List.mem_append.1 hx with hx | hx
            · exact ha x hx
            · rw [List.mem_singleton.1 hx]; exact hv) h (fun b' hb' => hl b' (by rw [← hb', List.append_assoc]; rfl))
        rwa [List.append_assoc] at hr
      · rename_i h2
        have hbm : b.toNat % 128 + 128 = b.toNat := by omega
        have hpos : 0 < 128 * n + b.toNat % 128 := by
          by_cases c : m = 0
          · have : b.toNat ≠ 128 := fun e => h1 ⟨c, e⟩
            omega
          · have : n ≠ 0 := fun e => c (hz.2 e)
            omega
        have hr := roF_back r (128 * n + b.toNat % 128) (m + 1) acc (pre ++ [b]) out (by rw [Nat.pow_succ]; omega) (by omega) (by omega) (by
            rw [hiL_snoc n (b.toNat % 128) (by omega) hpos (by omega), ← List.append_assoc, ← hp, ← hbo (128 + b.toNat % 128) (by omega)]) ha h (fun b' hb' => hl b' (by rw [← hb', List.append_assoc]; rfl))
        rwa [List.append_assoc] at hr
theorem last_small : ∀ (ns : List Nat), ns ≠ [] → ∃ p n, ns.flatMap grL = p ++ [UInt8.ofNat (n % 128)]
  | [], h => absurd rfl h
  | [n], _ => ⟨hiL 9 (n / 128), n, by rw [List.flatMap_cons, List.flatMap_nil, List.append_nil]; rfl⟩
  | n :: m :: r, _ => by
    obtain ⟨p, k, h⟩ := last_small (m :: r) (by simp)
    exact ⟨grL n ++ p, k, by rw [List.flatMap_cons, h, List.append_assoc]⟩
theorem restL_nat (zs : List Int) : restL zs = (zs.map Int.toNat).flatMap grL := by
  rw [restL, List.flatMap_map]
theorem oidErr_facts (a b : Int) (r : List Int) (h : oidErr (a :: b :: r) = 0) : 0 ≤ a ∧ 0 ≤ b ∧ (∀ z ∈ r, 0 ≤ z ∧ z ≤ 268435455) ∧ a ≤ 2 ∧ (a < 2 → b ≤ 39) ∧ b ≤ 1000000 ∧ r.length ≤ 18 := by
  rw [oidErr] at h
  split at h
  · cases h
  split at h
  · cases h
  split at h
  · cases h
  split at h
  · cases h
  split at h
  · cases h
  rename_i h1 h2 h3 h4 h5
  simp only [List.any_cons, List.any_eq_true, Bool.or_eq_true, decide_eq_true_eq, not_or, not_exists, not_and, List.drop_succ_cons, List.drop_zero, List.getD_cons_zero, List.getD_cons_succ, List.length_cons] at h2 h3 h4 h5
  exact ⟨by omega, by omega, fun z hz => ⟨by have := h2.2.2 z hz; omega, by have := h5 z hz; omega⟩, by omega, by omega, by omega, by omega⟩
theorem oidErr_zero (a b : Int) (r : List Int) (h0 : 0 ≤ a) (h1 : 0 ≤ b) (h2 : ∀ z ∈ r, 0 ≤ z ∧ z ≤ 268435455) (h3 : a ≤ 2) (h4 : a < 2 → b ≤ 39) (h5 : b ≤ 1000000) (h6 : r.length ≤ 18) : oidErr (a :: b :: r) = 0 := by
  rw [oidErr, if_neg (by simp), if_neg, if_neg, if_neg, if_neg]
  · simp only [List.any_eq_true, decide_eq_true_eq, not_exists, not_and, List.drop_succ_cons, List.drop_zero]
    intro z hz; have := h2 z hz; omega
  · simp; omega
  · simp only [List.getD_cons_zero, List.getD_cons_succ]
    omega
  · simp only [List.any_cons, List.any_eq_true, Bool.or_eq_true, decide_eq_true_eq, not_or, not_exists, not_and]
    exact ⟨by omega, by omega, fun z hz => by have := h2 z hz; omega⟩
theorem map_back (r : List Int) (h : ∀ z ∈ r, 0 ≤ z ∧ z ≤ 268435455) : List.map (fun x : Nat => (x : Int)) (r.map Int.toNat) = r := by
  rw [List.map_map]
  conv => rhs; rw [← List.map_id r]
  apply List.map_congr_left
  intro z hz
  have := h z hz
  simp
  omega
/-- What is written is read. -/
theorem oid_back (zs : List Int) (h : oidErr zs = 0) : roErr (oidB zs) = 0 ∧ roV (oidB zs) = zs := by
  match zs, h with
  | [], h => cases h
  | [_], h => cases h
  | a :: b :: r, h =>
    obtain ⟨ha, hb, hr, ha2, hab, hb6, hlen⟩ := oidErr_facts a b r h
    have hv : (40 * a + b).toNat ≤ 268435455 := by omega
    have hl : (oidB (a :: b :: r)).data.toList = ((40 * a + b).toNat :: r.map Int.toNat).flatMap grL := by
      show oidL (a :: b :: r) = _
      rw [oidL, List.flatMap_cons, restL_nat]
      rfl
    have hR : roR (oidB (a :: b :: r)) = some ((40 * a + b).toNat :: r.map Int.toNat, false) := by
      rw [roR, hl, roF_rest _ [] (fun n hn => by
        rcases List.mem_cons.1 hn with rfl | hn
        · exact hv
        · obtain ⟨z, hz, rfl⟩ := List.mem_map.1 hn
          have := hr z hz
          omega)]
      rfl
    obtain ⟨p, k, hp⟩ := last_small ((40 * a + b).toNat :: r.map Int.toNat) (by simp)
    have hs : (oidB (a :: b :: r)).size = p.length + 1 := by rw [Lib.size_eq, hl, hp, List.length_append]; rfl
    have hlast : rdB (oidB (a :: b :: r)).data.toList ((oidB (a :: b :: r)).size - 1) = k % 128 := by
      rw [hs, hl, hp, rdB, List.getD_eq_getElem?_getD, Nat.add_sub_cancel, List.getElem?_append_right (Nat.le_refl _), Nat.sub_self]
      show (UInt8.ofNat (k % 128)).toNat = k % 128
      rw [UInt8.toNat_ofNat']
      omega
    have e : roErr (oidB (a :: b :: r)) = 0 := by
      rw [roErr, if_neg (by rw [hlast, hs]; omega), hR]
      show (if false = true ∨ 19 < ((40 * a + b).toNat :: r.map Int.toNat).length then (13 : Int) else 0) = 0
      rw [if_neg (by simp; omega)]
    refine ⟨e, ?_⟩
    rw [roV, if_pos e, hR]
    show firstOf (40 * a + b).toNat ++ List.map (fun x : Nat => (x : Int)) (r.map Int.toNat) = a :: b :: r
    rw [map_back r hr, firstOf]
    by_cases c : a < 2
    · have := hab c
      rw [if_pos (by omega), show (((40 * a + b).toNat / 40 : Nat) : Int) = a by omega, show (((40 * a + b).toNat % 40 : Nat) : Int) = b by omega]
      rfl
    · rw [if_neg (by omega), show (((40 * a + b).toNat : Nat) : Int) - 80 = b by omega, show (2 : Int) = a by omega]
      rfl
theorem ro_facts (s : ByteArray) (h : roErr s = 0) : ∃ v r, roR s = some (v :: r, false) ∧ r.length ≤ 18 ∧ s.data.toList = (v :: r).flatMap grL ∧ (∀ x ∈ v :: r, x ≤ 268435455) ∧ roV s = firstOf v ++ List.map (fun x : Nat => (x : Int)) r := by
  have h0 := h
  rw [roErr] at h
  split at h
  · cases h
  rename_i h1
  split at h
  · cases h
  rename_i acc big hR
  split at h
  · cases h
  rename_i h2
  have hbig : big = false := by cases big <;> simp_all
  subst hbig
  have hF := hR
  rw [roR] at hF
  have hs : s.data.toList.length = s.size := (Lib.size_eq s).symm
  obtain ⟨e, hx⟩ := roF_back s.data.toList 0 0 [] [] acc (by decide) (by omega) (by simp) rfl (by simp) hF (fun b hb => by
    rw [List.nil_append, List.getLast?_eq_getElem?, hs] at hb
    have : rdB s.data.toList (s.size - 1) = b.toNat := by rw [rdB, List.getD_eq_getElem?_getD, hb]; rfl
    omega)
  rw [List.nil_append] at e
  match acc, hR, h2, e, hx with
  | [], _, _, e, _ =>
    exfalso
    rw [e] at hs
    have : s.size = 0 := hs.symm
    omega
  | v :: r, hR, h2, e, hx =>
    refine ⟨v, r, hR, by simp at h2; omega, e, hx, ?_⟩
    rw [roV, if_pos h0, hR]
    rfl
/-- What is read is written again. -/
theorem back_oid (s : ByteArray) (h : roErr s = 0) (h1 : (roV s).getD 1 0 ≤ 1000000) : oidErr (roV s) = 0 ∧ oidB (roV s) = s := by
  obtain ⟨v, r, hR, hlen, hl, hx, hV⟩ := ro_facts s h
  have hrr : ∀ z ∈ List.map (fun x : Nat => (x : Int)) r, 0 ≤ z ∧ z ≤ 268435455 := fun z hz => by
    obtain ⟨x, hxr, rfl⟩ := List.mem_map.1 hz
    have := hx x (by simp [hxr])
    omega
  have hrest : restL (List.map (fun x : Nat => (x : Int)) r) = r.flatMap grL := by
    rw [restL, List.flatMap_map]
    rfl
  have fin : ∀ a b : Int, firstOf v = [a, b] → 0 ≤ a → 0 ≤ b → a ≤ 2 → (a < 2 → b ≤ 39) → (40 * a + b).toNat = v → oidErr (roV s) = 0 ∧ oidB (roV s) = s := fun a b e ha hb ha2 hab hv => by
    rw [hV, e] at h1 ⊢
    refine ⟨oidErr_zero a b _ ha hb hrr ha2 hab (by simpa using h1) (by simpa using hlen), ?_⟩
    apply ByteArray.ext
    apply Array.toList_inj.1
    rw [hl, List.flatMap_cons]
    show grL (40 * a + b).toNat ++ restL (List.map (fun x : Nat => (x : Int)) r) = _
    rw [hv, hrest]
  by_cases c : v / 40 < 2
  · exact fin _ _ (by rw [firstOf, if_pos c]) (by omega) (by omega) (by omega) (by omega) (by omega)
  · exact fin _ _ (by rw [firstOf, if_neg c]) (by omega) (by omega) (by omega) (by omega) (by omega)
end Go.Proofs.Ytimokmhgpigliaa
