/- Numbers without divisors of their own: by powers of two (Pocklington). No program. -/
import Derived.Test.YtnodllkfmdhhlaaDoorLadNine
namespace Go.Proofs.YtnodllkfmdhhlaaDoor
set_option maxRecDepth 100000
set_option linter.unusedSimpArgs false
set_option linter.unusedVariables false

def ch : Nat → Nat → Nat
  | _, 0 => 1
  | 0, _ + 1 => 0
  | n + 1, k + 1 => ch n k + ch n (k + 1)
theorem ch_zero (n : Nat) : ch n 0 = 1 := by cases n <;> rfl
theorem ch_over : ∀ n k, n < k → ch n k = 0
  | 0, k + 1, _ => rfl
  | n + 1, k + 1, h => by rw [ch, ch_over n k (by omega), ch_over n (k + 1) (by omega)]
theorem ch_self : ∀ n, ch n n = 1
  | 0 => rfl
  | n + 1 => by rw [ch, ch_self n, ch_over n (n + 1) (by omega)]
theorem ch_mul : ∀ n k, (k + 1) * ch (n + 1) (k + 1) = (n + 1) * ch n k
  | 0, 0 => rfl
  | 0, k + 1 => by rw [ch_over 1 (k + 2) (by omega), ch_over 0 (k + 1) (by omega)]; simp
  | n + 1, 0 => by
    have h := ch_mul n 0
    have e : ch (n + 1 + 1) (0 + 1) = ch (n + 1) 0 + ch (n + 1) (0 + 1) := rfl
    rw [ch_zero] at h ⊢
    rw [e, ch_zero]
    omega
  | n + 1, k + 1 => by
    have h1 := ch_mul n k
    have h2 := ch_mul n (k + 1)
    have e1 : ch (n + 2) (k + 2) = ch (n + 1) (k + 1) + ch (n + 1) (k + 2) := rfl
    have e2 : ch (n + 1) (k + 1) = ch n k + ch n (k + 1) := rfl
    show (k + 2) * ch (n + 2) (k + 2) = (n + 2) * ch (n + 1) (k + 1)
    rw [e1, Nat.mul_add, h2]
    have : (k + 2) * ch (n + 1) (k + 1) = (k + 1) * ch (n + 1) (k + 1) + ch (n + 1) (k + 1) := by rw [show k + 2 = (k + 1) + 1 by omega, Nat.succ_mul]
    rw [this, h1]
    have e3 : (n + 2) * ch (n + 1) (k + 1) = (n + 1) * ch (n + 1) (k + 1) + ch (n + 1) (k + 1) := by rw [show n + 2 = (n + 1) + 1 by omega, Nat.succ_mul]
    rw [e3, e2, Nat.mul_add]
    omega
/-- The first so many of a row. -/
def chS (n : Nat) : Nat → Nat
  | 0 => 0
  | m + 1 => chS n m + ch n m
theorem chS_step (n : Nat) : ∀ m, chS (n + 1) (m + 1) = chS n (m + 1) + chS n m
  | 0 => by simp [chS, ch_zero]
  | m + 1 => by
    rw [chS, chS_step n m, ch]
    show _ = chS n (m + 1) + ch n (m + 1) + (chS n m + ch n m)
    rw [show chS n (m + 1) = chS n m + ch n m from rfl]
    omega
theorem chS_row : ∀ n, chS n (n + 1) = 2 ^ n
  | 0 => rfl
  | n + 1 => by
    rw [chS_step, chS, chS_row n, ch_over n (n + 1) (by omega), Nat.pow_succ]; omega
theorem chS_mod (r : Nat) (hr : sole r) (h1 : 1 < r) : ∀ m, 1 ≤ m → m ≤ r → chS r m % r = 1 % r
  | 0, h, _ => absurd h (by omega)
  | 1, _, _ => by simp [chS, ch_zero]
  | m + 2, _, hm => by
    have ih := chS_mod r hr h1 (m + 1) (by omega) (by omega)
    rw [chS]
    have hd : r ∣ (m + 1) * ch r (m + 1) := by
      obtain ⟨s, rfl⟩ : ∃ s, r = s + 1 := ⟨r - 1, by omega⟩
      rw [ch_mul]; exact Nat.dvd_mul_right _ _
    rcases sole_dvd hr hd with h | h
    · have := Nat.le_of_dvd (by omega) h; omega
    · rw [Nat.add_mod, Nat.mod_eq_zero_of_dvd h, Nat.add_zero, Nat.mod_mod, ih]
/-- Fermat's small theorem at two. -/
theorem two_pow (r : Nat) (hr : sole r) (h2 : 2 < r) : 2 ^ (r - 1) % r = 1 := by
  have h := chS_mod r hr (by omega) r (by omega) (Nat.le_refl _)
  have hrow := chS_row r
  rw [chS, ch_self] at hrow
  have h1 : 2 ^ r % r = 2 % r := by rw [← hrow, Nat.add_mod, h, ← Nat.add_mod]
  obtain ⟨s, rfl⟩ : ∃ s, r = s + 1 := ⟨r - 1, by omega⟩
  rw [Nat.add_sub_cancel]
  rw [Nat.pow_succ] at h1
  have hpos : 0 < 2 ^ s := Nat.pow_pos (by decide)
  have hd : (s + 1) ∣ 2 * (2 ^ s - 1) := by
    have : 2 * (2 ^ s - 1) = 2 ^ s * 2 - 2 := by omega
    rw [this]
    exact Nat.dvd_of_mod_eq_zero (Nat.sub_mod_eq_zero_of_mod_eq h1)
  rcases sole_dvd hr hd with h | h
  · have := Nat.le_of_dvd (by decide) h; omega
  · obtain ⟨c, hc⟩ := h
    rw [show 2 ^ s = (s + 1) * c + 1 by omega, Nat.mul_add_mod, Nat.mod_eq_of_lt (by omega)]
/-- Two exponents, and their common divisor. -/
theorem two_gcd (r : Nat) (h1 : 1 < r) (a : Nat) : ∀ b, 2 ^ a % r = 1 → 2 ^ b % r = 1 → 2 ^ (Nat.gcd a b) % r = 1 := by
  induction a using Nat.strongRecOn with
  | _ a ih =>
    intro b ha hb
    by_cases h0 : a = 0
    · subst h0; rw [Nat.gcd_zero_left]; exact hb
    · rw [Nat.gcd_rec]
      refine ih (b % a) (Nat.mod_lt _ (by omega)) a ?_ ha
      have e : 2 ^ b = (2 ^ a) ^ (b / a) * 2 ^ (b % a) := by rw [← Nat.pow_mul, ← Nat.pow_add, Nat.div_add_mod]
      rw [e, Nat.mul_mod, Nat.pow_mod, ha, Nat.one_pow, Nat.mod_eq_of_lt h1, Nat.one_mul, Nat.mod_mod] at hb
      exact hb
theorem some_sole (m : Nat) : 1 < m → ∃ r, 1 < r ∧ r ∣ m ∧ sole r := by
  induction m using Nat.strongRecOn with
  | _ m ih =>
    intro hm
    by_cases h : sole m
    · exact ⟨m, hm, Nat.dvd_refl m, h⟩
    · unfold sole at h
      obtain ⟨d, hd⟩ := Classical.not_forall.1 h
      obtain ⟨h1, h2⟩ := Classical.not_imp.1 hd
      have hlt : d < m := by have := Nat.le_of_dvd (by omega) h1; omega
      have h0 : d ≠ 0 := fun e => by subst e; have := Nat.eq_zero_of_zero_dvd h1; omega
      obtain ⟨r, a, b, c⟩ := ih d hlt (by omega)
      exact ⟨r, a, Nat.dvd_trans b h1, c⟩
theorem small_sole (n : Nat) (hn : 1 < n) (h : ¬ sole n) : ∃ r, 1 < r ∧ r ∣ n ∧ sole r ∧ r * r ≤ n := by
  unfold sole at h
  obtain ⟨d, hd⟩ := Classical.not_forall.1 h
  obtain ⟨⟨e, he⟩, h2⟩ := Classical.not_imp.1 hd
  have hd1 : d ≠ 1 := fun x => h2 (.inl x)
  have hdn : d ≠ n := fun x => h2 (.inr x)
  have hd0 : d ≠ 0 := fun x => by subst x; rw [Nat.zero_mul] at he; omega
  have he0 : e ≠ 0 := fun x => by subst x; rw [Nat.mul_zero] at he; omega
  have he1 : e ≠ 1 := fun x => by subst x; rw [Nat.mul_one] at he; omega
  rcases Nat.le_total d e with hle | hle
  · obtain ⟨r, a, b, c⟩ := some_sole d (by omega)
    have := Nat.le_of_dvd (by omega) b
    exact ⟨r, a, Nat.dvd_trans b ⟨e, he⟩, c, Nat.le_trans (Nat.mul_le_mul this (Nat.le_trans this hle)) (by rw [he]; exact Nat.le_refl _)⟩
  · obtain ⟨r, a, b, c⟩ := some_sole e (by omega)
    have := Nat.le_of_dvd (by omega) b
    exact ⟨r, a, Nat.dvd_trans b ⟨d, by rw [he, Nat.mul_comm]⟩, c, Nat.le_trans (Nat.mul_le_mul (Nat.le_trans this hle) this) (by rw [he]; exact Nat.le_refl _)⟩
/-- A power of two, reckoned. -/
def pmQ (n e : Nat) : Nat → Nat
  | 0 => 1 % n
  | m + 1 => (fun x => if e / 2 ^ (255 - m) % 2 = 1 then 2 * (x * x) % n else x * x % n) (pmQ n e m)
theorem pmQ_eq (n e : Nat) (he : e < 2 ^ 256) : ∀ m, m ≤ 256 → pmQ n e m = 2 ^ (e / 2 ^ (256 - m)) % n
  | 0, _ => by rw [pmQ, Nat.div_eq_of_lt he, Nat.pow_zero]
  | m + 1, h => by
    rw [pmQ, pmQ_eq n e he m (by omega)]
    have e1 : e / 2 ^ (256 - m) = e / 2 ^ (255 - m) / 2 := by rw [Nat.div_div_eq_div_mul, ← Nat.pow_succ, show (255 - m).succ = 256 - m by omega]
    rw [show 256 - (m + 1) = 255 - m by omega, e1]
    generalize e / 2 ^ (255 - m) = y
    dsimp only
    split
    · rename_i hb
      have : y = y / 2 + y / 2 + 1 := by omega
      conv => rhs; rw [this, Nat.pow_succ, Nat.pow_add, Nat.mul_comm]
      rw [Nat.mul_mod 2, ← Nat.mul_mod (2 ^ (y / 2)), ← Nat.mul_mod]
    · have : y = y / 2 + y / 2 := by omega
      conv => rhs; rw [this, Nat.pow_add]
      rw [← Nat.mul_mod]
theorem pmQ_val (n e : Nat) (he : e < 2 ^ 256) : pmQ n e 256 = 2 ^ e % n := by
  rw [pmQ_eq n e he 256 (Nat.le_refl _), Nat.sub_self, Nat.pow_zero, Nat.div_one]
/-- What is reckoned of n and a factor q of n - 1. -/
def pocB (n q : Nat) : Bool := decide (2 < n) && decide (n % 2 = 1) && decide (n < 2 ^ 256) && decide (pmQ n (n - 1) 256 = 1) && decide ((n - 1) % q = 0) && decide (Nat.gcd (pmQ n ((n - 1) / q) 256 + (n - 1)) n = 1)
theorem poc_dvd {n q r : Nat} (hq : sole q) (hB : pocB n q = true) (hr : sole r) (h1 : 1 < r) (hrn : r ∣ n) : q ∣ r - 1 := by
  unfold pocB at hB
  simp only [Bool.and_eq_true, decide_eq_true_eq] at hB
  obtain ⟨⟨⟨⟨⟨hn, hodd⟩, hlt⟩, hf⟩, hqd⟩, hg⟩ := hB
  have h2 : 2 < r := by
    rcases (show r = 2 ∨ 2 < r by omega) with e | e
    · subst e; obtain ⟨c, hc⟩ := hrn; omega
    · exact e
  have hF := two_pow r hr h2
  have hN : 2 ^ (n - 1) % r = 1 := by
    rw [pmQ_val n (n - 1) (by omega)] at hf
    have := Nat.mod_mod_of_dvd (2 ^ (n - 1)) hrn
    rw [← this, hf, Nat.mod_eq_of_lt h1]
  by_cases hd : q ∣ r - 1
  · exact hd
  · exfalso
    have hgc := two_gcd r h1 (n - 1) (r - 1) hN hF
    obtain ⟨m, hm⟩ := Nat.dvd_of_mod_eq_zero hqd
    have hq0 : 0 < q := Nat.pos_of_ne_zero fun e => by subst e; rw [Nat.zero_mul] at hm; omega
    have hdiv : (n - 1) / q = m := by rw [hm]; exact Nat.mul_div_cancel_left _ hq0
    have hcop : Nat.Coprime (Nat.gcd (n - 1) (r - 1)) q := by
      have hx : Nat.gcd (Nat.gcd (n - 1) (r - 1)) q ∣ q := Nat.gcd_dvd_right _ _
      rcases hq _ hx with e | e
      · exact e
      · exact absurd (Nat.dvd_trans (by rw [← e]; exact Nat.gcd_dvd_left _ _) (Nat.gcd_dvd_right (n - 1) (r - 1))) hd
    have hgm : Nat.gcd (n - 1) (r - 1) ∣ m := by
      refine Nat.Coprime.dvd_of_dvd_mul_left hcop ?_
      rw [← hm]; exact Nat.gcd_dvd_left _ _
    obtain ⟨c, hc⟩ := hgm
    have hone : 2 ^ m % r = 1 := by
      rw [hc, Nat.pow_mul, Nat.pow_mod, hgc, Nat.one_pow, Nat.mod_eq_of_lt h1]
    rw [hdiv, pmQ_val n m (by have : m ≤ n - 1 := by rw [hm]; exact Nat.le_mul_of_pos_left _ hq0
                              omega)] at hg
    have hy : (2 ^ m % n) % r = 1 := by rw [Nat.mod_mod_of_dvd _ hrn]; exact hone
    have hrd : r ∣ 2 ^ m % n + (n - 1) := by
      obtain ⟨k, hk⟩ := hrn
      have hz := Nat.div_add_mod (2 ^ m % n) r
      rw [hy] at hz
      refine ⟨(2 ^ m % n) / r + k, ?_⟩
      rw [Nat.mul_add, ← hk]
      omega
    have := Nat.dvd_gcd hrd hrn
    rw [hg] at this
    have := Nat.le_of_dvd (by decide) this
    omega
theorem poc_one {n q : Nat} (hq : sole q) (hB : pocB n q = true) (hs : n < q * q) : sole n := by
  have hn : 2 < n := by
    unfold pocB at hB
    simp only [Bool.and_eq_true, decide_eq_true_eq] at hB
    exact hB.1.1.1.1.1
  refine Classical.byContradiction fun h => ?_
  obtain ⟨r, h1, h2, h3, h4⟩ := small_sole n (by omega) h
  have := Nat.le_of_dvd (by omega) (poc_dvd hq hB h3 h1 h2)
  have := Nat.mul_le_mul (show q ≤ r by omega) (show q ≤ r by omega)
  omega
theorem poc_two {n q p : Nat} (hq : sole q) (hp : sole p) (hqp : Nat.gcd q p = 1) (hB : pocB n q = true) (hC : pocB n p = true) (hs : n < q * p * (q * p)) : sole n := by
  have hn : 2 < n := by
    unfold pocB at hB
    simp only [Bool.and_eq_true, decide_eq_true_eq] at hB
    exact hB.1.1.1.1.1
  refine Classical.byContradiction fun h => ?_
  obtain ⟨r, h1, h2, h3, h4⟩ := small_sole n (by omega) h
  have hd : q * p ∣ r - 1 := Nat.Coprime.mul_dvd_of_dvd_of_dvd hqp (poc_dvd hq hB h3 h1 h2) (poc_dvd hp hC h3 h1 h2)
  have := Nat.le_of_dvd (by omega) hd
  have := Nat.mul_le_mul (show q * p ≤ r by omega) (show q * p ≤ r by omega)
  omega
theorem sole_small (n : Nat) (h0 : 0 < n) (h : ∀ d, d < n + 1 → n % d = 0 → d = 1 ∨ d = n) : sole n := fun d hd => h d (by have := Nat.le_of_dvd h0 hd; omega) (Nat.mod_eq_zero_of_dvd hd)

theorem sole_991 : sole 991 := sole_small _ (by decide) (by decide +kernel)
theorem sole_103 : sole 103 := sole_small _ (by decide) (by decide +kernel)
theorem sole_8574133 : sole 8574133 := poc_two sole_991 sole_103 (by decide +kernel) (by decide +kernel) (by decide +kernel) (by decide +kernel)
theorem sole_127 : sole 127 := sole_small _ (by decide) (by decide +kernel)
theorem sole_1919519569386763 : sole 1919519569386763 := poc_two sole_8574133 sole_127 (by decide +kernel) (by decide +kernel) (by decide +kernel) (by decide +kernel)
theorem sole_419 : sole 419 := sole_small _ (by decide) (by decide +kernel)
theorem sole_97 : sole 97 := sole_small _ (by decide) (by decide +kernel)
theorem sole_569003 : sole 569003 := poc_two sole_419 sole_97 (by decide +kernel) (by decide +kernel) (by decide +kernel) (by decide +kernel)
theorem sole_2773320623 : sole 2773320623 := poc_one sole_569003 (by decide +kernel) (by decide +kernel)
theorem sole_72106336199 : sole 72106336199 := poc_one sole_2773320623 (by decide +kernel) (by decide +kernel)
theorem sole_75445702479781427272750846543864801 : sole 75445702479781427272750846543864801 := poc_two sole_1919519569386763 sole_72106336199 (by decide +kernel) (by decide +kernel) (by decide +kernel) (by decide +kernel)
theorem sole_1723 : sole 1723 := sole_small _ (by decide) (by decide +kernel)
theorem sole_430751 : sole 430751 := poc_one sole_1723 (by decide +kernel) (by decide +kernel)
theorem sole_4153 : sole 4153 := sole_small _ (by decide) (by decide +kernel)
theorem sole_31757755568855353 : sole 31757755568855353 := poc_two sole_430751 sole_4153 (by decide +kernel) (by decide +kernel) (by decide +kernel) (by decide +kernel)
theorem sole_74058212732561358302231226437062788676166966415465897661863160754340907 : sole 74058212732561358302231226437062788676166966415465897661863160754340907 := poc_two sole_75445702479781427272750846543864801 sole_31757755568855353 (by decide +kernel) (by decide +kernel) (by decide +kernel) (by decide +kernel)
theorem sole_57896044618658097711785492504343953926634992332820282019728792003956564819949 : sole 57896044618658097711785492504343953926634992332820282019728792003956564819949 := poc_one sole_74058212732561358302231226437062788676166966415465897661863160754340907 (by decide +kernel) (by decide +kernel)
theorem sole_2551 : sole 2551 := sole_small _ (by decide) (by decide +kernel)
theorem sole_1224481 : sole 1224481 := poc_one sole_2551 (by decide +kernel) (by decide +kernel)
theorem sole_3797 : sole 3797 := sole_small _ (by decide) (by decide +kernel)
theorem sole_531581 : sole 531581 := poc_one sole_3797 (by decide +kernel) (by decide +kernel)
theorem sole_1257559732178653 : sole 1257559732178653 := poc_two sole_1224481 sole_531581 (by decide +kernel) (by decide +kernel) (by decide +kernel) (by decide +kernel)
theorem sole_4434155615661930479 : sole 4434155615661930479 := poc_one sole_1257559732178653 (by decide +kernel) (by decide +kernel)
theorem sole_172054593956031949258510691 : sole 172054593956031949258510691 := poc_one sole_4434155615661930479 (by decide +kernel) (by decide +kernel)
theorem sole_19757330305831588566944191468367130476339 : sole 19757330305831588566944191468367130476339 := poc_one sole_172054593956031949258510691 (by decide +kernel) (by decide +kernel)
theorem sole_276602624281642239937218680557139826668747 : sole 276602624281642239937218680557139826668747 := poc_one sole_19757330305831588566944191468367130476339 (by decide +kernel) (by decide +kernel)
theorem sole_7237005577332262213973186563042994240857116359379907606001950938285454250989 : sole 7237005577332262213973186563042994240857116359379907606001950938285454250989 := poc_one sole_276602624281642239937218680557139826668747 (by decide +kernel) (by decide +kernel)
/-- The two that are asked for. -/
theorem sole_field : sole pF := sole_57896044618658097711785492504343953926634992332820282019728792003956564819949
theorem sole_order : sole ordL := sole_7237005577332262213973186563042994240857116359379907606001950938285454250989
theorem nine_never (s : List UInt8) (hs : s.length = 32) : shareF s nineL ≠ 0 := share_nine sole_field sole_order s hs
end Go.Proofs.YtnodllkfmdhhlaaDoor
