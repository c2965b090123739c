/- AesMany: for every key and every list of blocks (of up to thirty) the program's Blocks are as Block of each alone, its refusals too; the chapter's examples hold. No condition; the table of squares of package aes lies as the program's text lays it. -/
import Derived.Test.YtlbhhnjchhncgaaDoorCards
import Derived.Test.YtlbhhnjchhncgaaDoorTie
import Derived.SevenTiedAt
import Derived.Test.YtlbhhnjchhncgaaDoorAesFrame
import Derived.SliceStrings
import Derived.Carry
namespace Go.Proofs.YtlbhhnjchhncgaaDoor
open Go.ChangeShapes Go.WideShapes Go.ChangeAt Go.WideMaps Go.WideElems Go.RowKit
open Go.ChangeMaps (open_string shut_string)
set_option maxRecDepth 100000
set_option linter.unusedSimpArgs false
set_option linter.unusedVariables false

/-- What Block answers. -/
def blT (key b : ByteArray) : ByteArray := if key.size = 16 ∧ b.size = 16 then encS key b else ⟨#[]⟩
def blQ (key b : ByteArray) : Int := if key.size = 16 then (if b.size = 16 then 0 else 1) else 21
theorem block_res (key b : ByteArray) (W : World) (hT : TabQ W) : Calls Tryd.prog 8 #[.string key, .string b] W fun e w' => e = .returned (.tuple #[.string (blT key b), .int .i64 (blQ key b)]) ∧ Below W.heap.size W w' := by
  unfold blT blQ
  by_cases h1 : key.size = 16
  · by_cases h2 : b.size = 16
    · rw [if_pos ⟨h1, h2⟩, if_pos h1, if_pos h2]; exact block_enc key b W h1 h2 hT
    · rw [if_neg (fun h => h2 h.2), if_pos h1, if_neg h2]; exact blockArg_any key b W h1 h2
  · rw [if_neg (fun h => h1 h.1), if_neg h1]; exact blockKey_any key b W h1
/-- The first refusal among so many blocks. -/
def badS (key : ByteArray) (f : Nat → ByteArray) : Nat → Int
  | 0 => 0
  | i + 1 => if blQ key (f i) ≠ 0 ∧ badS key f i = 0 then blQ key (f i) else badS key f i
theorem badS_ok (key : ByteArray) (f : Nat → ByteArray) (hk : key.size = 16) : ∀ n, (∀ i, i < n → (f i).size = 16) → badS key f n = 0
  | 0, _ => rfl
  | n + 1, h => by
    have hq : blQ key (f n) = 0 := by rw [blQ, if_pos hk, if_pos (h n (by omega))]
    rw [badS, if_neg (fun e => e.1 hq)]
    exact badS_ok key f hk n fun i hi => h i (by omega)
theorem badS_bad (key : ByteArray) (f : Nat → ByteArray) (hk : key.size = 16) (j0 : Nat) (hj : (f j0).size ≠ 16) (hok : ∀ i, i < j0 → (f i).size = 16) : ∀ n, j0 < n → badS key f n = 1
  | 0, h => by omega
  | n + 1, h => by
    by_cases e : n = j0
    · subst e
      have hq : blQ key (f n) = 1 := by rw [blQ, if_pos hk, if_neg hj]
      rw [badS, if_pos ⟨by rw [hq]; decide, badS_ok key f hk n hok⟩, hq]
    · have := badS_bad key f hk j0 hj hok n (by omega)
      rw [badS, if_neg (fun e => by rw [this] at e; exact absurd e.2 (by decide)), this]
/-- The first that is none, if there is one. -/
theorem first_bad (f : Nat → ByteArray) : ∀ n, (∀ i, i < n → (f i).size = 16) ∨ ∃ j, j < n ∧ (f j).size ≠ 16 ∧ ∀ i, i < j → (f i).size = 16
  | 0 => .inl fun i hi => by omega
  | n + 1 => by
    rcases first_bad f n with h | ⟨j, hj, h1, h2⟩
    · by_cases e : (f n).size = 16
      · exact .inl fun i hi => by
          by_cases hin : i = n
          · subst hin; exact e
          · exact h i (by omega)
      · exact .inr ⟨n, by omega, e, h⟩
    · exact .inr ⟨j, by omega, h1, h2⟩
/-- What Blocks answers: refused, or each block's answer. -/
theorem blocks_res (key : ByteArray) (ao : Option Addr) (n cap : Nat) (f : Nat → ByteArray) (hn : n ≤ 1000) : ∃ (m : Nat) (z : Int), (∀ W, TextsAt W ao n f → TabQ W → Calls Tryd.prog 16 #[.string key, .slice ao n cap] W fun e w' => (∃ lo lc, e = .returned (.tuple #[.slice lo m lc, .int .i64 z]) ∧ TextsAt w' lo m (fun j => blT key (f j))) ∧ Below W.heap.size W w') ∧
    (z ≠ 0 → m = 0) ∧ (z = 0 → m = n) ∧ (key.size ≠ 16 → z = 21) ∧ (key.size = 16 → z = badS key f n) := by
  by_cases hk : key.size = 16
  · rcases first_bad f n with h | ⟨j, hj, h1, h2⟩
    · refine ⟨n, 0, fun W hc hT => (blocks_any key ao n cap f W hk hn hc h hT).mono ?_, fun h => absurd rfl h, fun _ => rfl, fun h => absurd hk h, fun _ => (badS_ok key f hk n h).symm⟩
      rintro e w' ⟨⟨g, rfl, hg, hcs⟩, hb⟩
      refine ⟨⟨some ⟨g, 0, none⟩, n, rfl, fun j hj => ⟨g, 0, rfl, ?_⟩⟩, hb⟩
      show w'.cell? ⟨g, 0 + j, none⟩ = some (.string (blT key (f j)))
      rw [Nat.zero_add, cell_of_row _ _ _ _ _ _ hcs, blT, if_pos ⟨hk, h j hj⟩]
      exact scells_get _ _ _ (by simp [ansP, hj])
    · refine ⟨0, 1, fun W hc hT => (blocksArg_any key ao n cap f j W hk hn hc hj h1 h2).mono ?_, fun _ => rfl, fun h => absurd h (by decide), fun h => absurd hk h, fun _ => (badS_bad key f hk j h1 h2 n hj).symm⟩
      rintro e w' ⟨rfl, hb⟩
      exact ⟨⟨none, 0, rfl, fun j hj => by omega⟩, hb⟩
  · refine ⟨0, 21, fun W hc hT => (blocksKey_any key ao n cap W hk).mono ?_, fun _ => rfl, fun h => absurd h (by decide), fun _ => rfl, fun h => absurd h hk⟩
    rintro e w' ⟨rfl, hb⟩
    exact ⟨⟨none, 0, rfl, fun j hj => by omega⟩, hb⟩
def wantV (key : ByteArray) (f : Nat → ByteArray) (n : Nat) : List Value := (List.range n).map fun i => Value.string (blT key (f i))
theorem wantV_length (key : ByteArray) (f : Nat → ByteArray) (n : Nat) : (wantV key f n).length = n := by simp [wantV]
theorem wantV_snoc (key : ByteArray) (f : Nat → ByteArray) (n : Nat) : wantV key f n ++ [.string (blT key (f n))] = wantV key f (n + 1) := by simp [wantV, List.range_succ]
theorem laidOut : laidOutB Tryd.prog = true := by kernel_rfl
theorem add_lits (g off j : Nat) : (⟨g, off, none⟩ : Addr).add j = ⟨g, off + j, none⟩ := by
  unfold Addr.add; split <;> simp_all

set_option maxHeartbeats 4000000 in
theorem aesMany_any (key : ByteArray) (ao : Option Addr) (len cap : Nat) (f : Nat → ByteArray) (w : World) (hlen : len ≤ maxLen)
    (hc : ∀ j, j < len → ∃ g off, ao = some ⟨g, off, none⟩ ∧ g < w.heap.size ∧ w.cell? ⟨g, off + j, none⟩ = some (.string (f j)) ∧ (f j).size ≤ maxLen) (hT : TabQ w) :
    Calls Tryd.prog 6 #[.string key, .slice ao len cap] w fun e w' => e = .returned (.bool true) ∧ Below w.heap.size w w' := by
  unfold maxLen at hlen
  have HC := Lib.hid (show TextsAt w ao len f from fun j hj => by
    obtain ⟨g, off, h1, _, h2, _⟩ := hc j hj
    exact ⟨g, off, h1, h2⟩)
  clear hc
  by_cases hbig : 30 < len
  · have hd : decide ((30 : Int) < (len : Int)) = true := by simp; omega
    go_enter Tryd.func6, Tryd.ntmps6
    go_wp2_with fail
    refine (aawake_any _ hT).mono ?_
    rintro e W1 ⟨rfl, hb1⟩
    go_wp2_with fail
    go_ret
    exact ⟨rfl, hb1⟩
  have hd : decide ((30 : Int) < (len : Int)) = false := by simp; omega
  obtain ⟨m, z, hBl, hz1, hz2, hz3, hz4⟩ := blocks_res key ao len cap f (by omega)
  have HB := Lib.hid (hBl w HC.out hT)
  have HT := Lib.hid hT
  have HZ1 := Lib.hid hz1; have HZ2 := Lib.hid hz2; have HZ3 := Lib.hid hz3; have HZ4 := Lib.hid hz4
  obtain ⟨i0, hi, hi0, hi1, hi2⟩ := info_parts info_string
  clear hBl hz1 hz2 hz3 hz4 hT
  have hl30 : len ≤ 30 := by omega
  go_enter Tryd.func6, Tryd.ntmps6
  go_wp2_with fail
  refine HB.out.mono ?_
  rintro e W1 ⟨⟨lo, lc, rfl, hlt⟩, hb1⟩
  have HL := Lib.hid hlt
  have HT1 := Lib.hid (HT.out.step hb1)
  have HC1 := Lib.hid (HC.out.step hb1)
  have hsz1 := hb1.size
  clear hlt HB HT HC
  go_wp2_with fail
  obtain ⟨F, hF⟩ : ∃ F, W1.heap.size = F := ⟨_, rfl⟩
  have hown0 := Own.nil W1 F
  have hbF : Below F W1 W1 := Below.refl _ _
  have hFw : F ≤ W1.heap.size := by omega
  have hwF : w.heap.size ≤ F := by omega
  have HB1 := Lib.hid hb1
  clear hb1
  go_loopw [7, 8, 9] (fun wv bv iv wr => ∃ (i : Nat) (wo : Option Addr) (wc : Nat), i ≤ len ∧ iv = .int .i64 (i : Int) ∧ bv = .int .i64 (badS key f i) ∧ wv = .slice wo i wc ∧ Own wr F (.slice wo i wc) (wantV key f i) ∧ Below F W1 wr ∧ F ≤ wr.heap.size) (fun _ _ iv _ => len - (intOf iv).toNat)
  case atStart => exact ⟨0, none, 0, by omega, rfl, rfl, rfl, hown0, hbF, hFw⟩
  case round =>
    clear hown0 hbF
    obtain ⟨i, wo, wc, hil, rfl, rfl, rfl, hown, hb, hsz⟩ := hrel
    have HO := Lib.hid hown
    have HLo := Lib.hid (wantV_length key f i)
    clear hown
    have hbS : Below W1.heap.size W1 wr := by rw [hF]; exact hb
    by_cases hlt : i < len
    · have hd2 : decide ((i : Int) < (len : Int)) = true := by simp; omega
      obtain ⟨g, off, rfl, hcell⟩ := (HC1.out.step hbS) i hlt
      have HR := Lib.hid (block_res key (f i) wr (HT1.out.step hbS))
      have HN := Lib.hid (wantV_snoc key f i)
      have HBS : Hid (badS key f (i + 1) = if blQ key (f i) ≠ 0 ∧ badS key f i = 0 then blQ key (f i) else badS key f i) := Lib.hid rfl
      clear hbS
      generalize blQ key (f i) = q at *
      generalize blT key (f i) = t at *
      generalize f i = fi at *
      generalize hbs : badS key f i = bs at *
      have hA : (∃ b2 : Int, badS key f (i + 1) = b2 ∧ (((q != 0) = false ∧ b2 = bs) ∨ ((q != 0) = true ∧ (bs == 0) = false ∧ b2 = bs) ∨ ((q != 0) = true ∧ (bs == 0) = true ∧ b2 = q))) := by
        refine ⟨_, HBS.out, ?_⟩
        by_cases h1 : q = 0
        · left; simp [h1]
        · by_cases h2 : bs = 0
          · right; right; simp [h1, h2]
          · right; left; simp [h1, h2]
      obtain ⟨b2, hb2, hA⟩ := hA
      have HB2 := Lib.hid hb2
      clear hb2 HBS hbs
      rcases hA with ⟨h1, rfl⟩ | ⟨h1, h2, rfl⟩ | ⟨h1, h2, rfl⟩
      all_goals
        go_wp2_with fail
        refine HR.out.mono ?_
        rintro e W5 ⟨rfl, hb5⟩
        have HO5 := Lib.hid (HO.out.below hb5)
        have hb6 := hb.trans (hb5.mono hsz)
        have hsz6 := Nat.le_trans hsz hb5.size
        go_wp2_with (at_builtin; refine wpList_append_sl rfl (.tmp 44) (.tmp 46) 27 rfl F 9 i0 (.string ⟨#[]⟩) 16 Tryd.underlying27 hi hi0 hi1 hi2 rfl wo i wc _ rfl (HO5.out.alloc _) HLo.out ⟨W5.heap.size, 0, none⟩ 1 1 [.string t] rfl rfl (cell_one_new _ _ _) ?b2 ?b3 ?b4 ?b5 ?_)
        case b2 => intro u hu; simp at hu; subst hu; rfl
        case b3 => omega
        case b4 => omega
        case b5 => simp; omega
        intro ao7 cp7 W7 hown7 hgrow7
        have hb7 : Below F _ W7 := below_append (hb6.alloc hsz6 _) (by simp; omega) (HO5.out.alloc _) hgrow7
        have hsz7 : F ≤ W7.heap.size := by have := hgrow7.size; simp at this; omega
        rw [HN.out] at hown7
        clear hgrow7 HO5 hb6 hsz6 hb5 HR
        go_wp2_with fail
        go_roundw
        case rel => exact ⟨i + 1, ao7, cp7, by omega, by go_num, by rw [HB2.out], rfl, hown7, hb7, hsz7⟩
        case measure => simp [intOf]; omega
    · have hd2 : decide ((i : Int) < (len : Int)) = false := by simp; omega
      obtain rfl : i = len := by omega
      have hsz0 : w.heap.size ≤ wr.heap.size := by omega
      have hbw : Below w.heap.size w wr := HB1.out.trans (hbS.mono HB1.out.size)
      have HTr := Lib.hid (HT1.out.step hbS)
      have HLr := Lib.hid (HL.out.step hbS)
      have HW := Lib.hid (texts_of_own HO.out)
      have hbi := HZ4.out
      clear hbS HO HC1
      by_cases hk : key.size = 16
      · have hkd : ((key.size : Int) != 16) = false := by simp [hk]
        have hbad := HZ4.out hk
        clear hbi
        rw [← hbad]
        by_cases hz : z = 0
        · obtain rfl : m = i := HZ2.out hz
          subst hz
          have HX := Lib.hid (texts_same lo wo m lc wc (fun j => blT key (f j)) wr (by omega) HLr.out HW.out)
          clear hbad
          go_wp2_with fail
          refine HX.out.mono ?_
          rintro e W4 ⟨rfl, hb4⟩
          have hB4 : Below w.heap.size w W4 := hbw.trans (hb4.mono hsz0)
          have hsz4 := Nat.le_trans hsz0 hb4.size
          have HT4 := Lib.hid (HTr.out.step hb4)
          clear HX hb4 HTr
          go_wp2_with fail
          refine (aawake_any W4 HT4.out).mono ?_
          rintro e W3 ⟨rfl, hb3⟩
          go_wp2_with fail
          go_ret
          exact ⟨rfl, hB4.trans (hb3.mono hsz4)⟩
        · obtain rfl : m = 0 := HZ1.out hz
          have hz1 : (z != 0) = true := by simpa using hz
          have hz2 : (z == z) = true := by simp
          clear hbad hz
          go_wp2_with fail
          refine (aawake_any wr HTr.out).mono ?_
          rintro e W3 ⟨rfl, hb3⟩
          go_wp2_with fail
          go_ret
          exact ⟨rfl, hbw.trans (hb3.mono hsz0)⟩
      · have hkd : ((key.size : Int) != 16) = true := by simp; omega
        obtain rfl : z = 21 := HZ3.out hk
        obtain rfl : m = 0 := HZ1.out (by decide)
        clear hbi
        go_wp2_with fail
        refine (aawake_any wr HTr.out).mono ?_
        rintro e W3 ⟨rfl, hb3⟩
        go_wp2_with fail
        go_ret
        exact ⟨rfl, hbw.trans (hb3.mono hsz0)⟩

theorem aesMany_lifted (os : Os) (started : os.Started) (H : Type) (enc : TypeId × Value → H) :
    ReturnsInHanded {} Tryd.checked os 6 .any (fun w args => (Rows.aesManySpec.pre enc Tryd.prog Tryd.f6 [] false w args ∧ laidMetH Tryd.prog laid1 w) ∧ sizedMet enc Tryd.prog Tryd.f6 (OpenSpec.ofChange Rows.aesManySpec) false w args)
      (Rows.aesManySpec.post enc Tryd.prog Tryd.f6 false true false false) := by
  refine returnsInHanded_of_change_and (C := Tryd.checked) (X := fun w _ => laidMetH Tryd.prog laid1 w) (fun _ _ _ hh h => h.of_heap hh) own1 started (by kernel_rfl) Tryd.func6
    (ChangeSpec.witness_shaped (enc := enc) (C := Tryd.checked) (os := os) (X := fun w _ => laidMetH Tryd.prog laid1 w) false (World.doorLaid Tryd.prog 400 os) #[.string ⟨#[]⟩, .slice none 0 0] 8 rfl (World.shaped_of_RefB (by kernel_rfl) (by kernel_rfl)) (by kernel_rfl) (by kernel_rfl) (by kernel_rfl) (door_met1 os _)) ?_
  intro W base args ds gs before hval0 hW _ _ hL _
  have hval : ∀ (j : Nat) t v, Tryd.f6.params[j]? = some t → args[j]? = some v → Value.okWide Tryd.prog W .any base t v := hval0
  have hW' := hW
  obtain ⟨p, q, hA0, hV, rfl, hfz, hnd⟩ := hW
  have hA : DataW.TrodAll enc Tryd.prog W 0 (fun _ => true) true Tryd.f6.params.toList args.toList ds p := hA0
  rw [Tryd.params6] at hA hval
  obtain ⟨v0, v1, d0, d1, p0, p1, rfl, rfl, rfl, h0, h1⟩ := trodAll_two hA
  obtain ⟨rfl, rfl⟩ := trodVars_none hV
  obtain ⟨key, rfl, rfl, rfl, wn⟩ := open_string Tryd.underlying9 (hval 0 9 v0 rfl rfl) h0
  obtain ⟨a0, len, cap, rfl⟩ := okWide_slice Tryd.underlying27 (hval 1 27 v1 rfl rfl)
  have h1k := h1
  obtain ⟨fuel, hf⟩ := h1
  have hT := of_laid1 hL
  clear hA0 hval0
  simp only [List.append_nil, List.nil_append] at hW'
  have hlt : ∀ x ∈ p1, x.block < W.heap.size := fun x hx => by simpa using hW'.lt x (by simpa using hx)
  obtain ⟨f, hlen, hc⟩ : ∃ f : Nat → ByteArray, len ≤ maxLen ∧ ∀ j, j < len → ∃ g off, a0 = some ⟨g, off, none⟩ ∧ g < W.heap.size ∧ W.cell? ⟨g, off + j, none⟩ = some (.string (f j)) ∧ (f j).size ≤ maxLen := by
    rcases open_strings Tryd.underlying27 Tryd.underlying9 (by kernel_rfl) hf with ⟨hcs, hx⟩ | ⟨a, len', cap', ss, hcs, _, hl, hm, hz, hx, hcell, hws⟩
    · simp [Value.cells] at hcs
      obtain ⟨rfl, rfl, rfl⟩ := hcs
      exact ⟨fun _ => ByteArray.empty, by unfold maxLen; omega, fun j hj => by omega⟩
    · simp [Value.cells] at hcs
      obtain ⟨rfl, rfl, rfl⟩ := hcs
      simp only [Prod.mk.injEq] at hx
      obtain ⟨rfl, rfl⟩ := hx
      simp only [if_true] at hz
      refine ⟨fun i => ss.getD i ByteArray.empty, by omega, fun j hj => ?_⟩
      obtain ⟨g, off, spot⟩ := a
      have hspot : spot = none := by simpa [Addr.add] using World.cell?_spot (hcell 0 (by omega))
      subst hspot
      refine ⟨g, off, rfl, hlt (.cell g off) (MemPlace.mem_row.2 ⟨0, by omega, by simp⟩), by rw [← add_lits]; exact hcell j (by omega), ?_⟩
      have hjs : j < ss.length := by omega
      have := hws ss[j] (List.getElem_mem hjs)
      simpa [List.getD_eq_getElem?_getD, hjs] using this
  refine (aesMany_any key a0 len cap f W hlen hc hT).mono fun e W' ⟨he, hb⟩ => ?_
  subst he
  refine ⟨_, rfl, _, _, _, [], [] ++ p1, [], hW', ?_, ?_, rfl, hb.frame _, fun h => by cases h⟩
  · exact trodAll_mk1 (shut_bool Tryd.underlying4 _)
  · exact trodAll_mk2 (shut_string Tryd.underlying9 wn) (Below.trod laidOut (by kernel_rfl) (of_decide_eq_true (by kernel_rfl)) h1k hb hlt)

theorem aesMany_holds : Rows.AesManySaid :=
  OpenClaim.holds_of_wide 6 Tryd.f6 rfl rfl rfl rfl rfl rfl rfl ⟨rfl, rfl, rfl, rfl, rfl⟩ rfl rfl rfl rfl rfl (by kernel_rfl) Tryd.func6 (by kernel_rfl)
    (of_decide_eq_true (by kernel_rfl)) (by unfold Func.isWrapper; first | (rw [if_pos (by decide +kernel)]; kernel_rfl) | (rw [if_neg (by decide +kernel)]; exact ⟨rfl, rfl⟩))
    (fun os started H enc _ => aesMany_lifted os started H enc)

theorem aesMany_card : Rows.AesManyCardSaid :=
  Claim7.holds_tied_plain_at .later [] [.data] true (true, "3870ea90e8ba3b78e694f39e2f7723a2c9cb9b13981a67c1f7b5d1b71bab7926") false
    aesMany_holds (fun _ h => by cases h) (by kernel_rfl) (fun _ h => by cases h) aesMany_row_tie rfl ⟨rfl, rfl⟩ (by kernel_rfl) rfl
    (fun f fn hf hfn => by
      obtain rfl : f = 6 := Option.some.inj ((show Tryd.prog.funcNamed "cresset/cressetlaw05.AesMany" = some 6 by kernel_rfl).symm.trans hf) |>.symm
      obtain rfl : fn = Tryd.f6 := (Option.some.inj (Tryd.func6.symm.trans hfn)).symm
      exact ⟨by kernel_rfl, fun j t ht => by
        rw [Tryd.params6] at ht
        have hm : t ∈ [9, 27] := by simpa using Array.mem_of_getElem? ht
        have hall : ([9, 27].all fun u => !Tryd.prog.wantsStandIn u) = true := by kernel_rfl
        exact (show Tryd.prog.wantsStandIn t = false by simpa using List.all_eq_true.1 hall t hm)⟩)
    (by kernel_rfl)
#print axioms aesMany_card
end Go.Proofs.YtlbhhnjchhncgaaDoor
