/- RecordBack: what one box has sealed another one opens, in order, and not with another byte in a tag: any suite, key and iv, any list of texts (of up to ten, of at most 500 bytes each), any number of noughts that a byte can say; the tables are as their texts lay them. -/
import Derived.Test.YtffnafikegakcaaGreatDoorCards
import Derived.Test.YtffnafikegakcaaGreatDoorTie
import Derived.SevenTiedAt
import Derived.Carry
import Derived.Test.YtffnafikegakcaaGreatDoorRbBackC
namespace Go.Proofs.YtffnafikegakcaaGreatDoor
open Go.ChangeShapes Go.WideShapes Go.ChangeAt Go.WideMaps Go.WideElems Go.RowKit
open Go.ChangeMaps (open_string shut_string)
set_option maxRecDepth 100000
set_option linter.unusedSimpArgs false
set_option linter.unusedVariables false

set_option maxHeartbeats 16000000 in
theorem recordBack_any (w : World) (su : Int) (ky iv : ByteArray) (wsu : (Lit.int .i64 su).wf = true) (wky : ky.size ≤ maxLen) (wiv : iv.size ≤ maxLen) (a1 : Option Addr) (n1 c1 : Nat) (ss : List ByteArray) (hl1 : ss.length = n1) (hI1 : StAt w a1 ss) (hm1 : n1 ≤ maxLen) (pd : Int) (wpd : (Lit.int .u8 pd).wf = true) (hT : TabQ w) :
    Calls Tryz.prog 5 #[.agg #[.int .i64 su, .string ky, .string iv], .slice a1 n1 c1, .int .u8 pd] w fun e w' => e = .returned (.bool true) ∧ Below w.heap.size w w' := by
  have HB0 := Lib.hid (below_new w (.cells (kyC su ky iv) 23))
  have HG0 := Lib.hid (blk_new w (.cells (kyC su ky iv) 23))
  obtain ⟨c0, c1', c2⟩ := ky_cells HG0.out
  have HT := Lib.hid hT
  have HS := Lib.hid hI1
  have HL1 := Lib.hid hl1
  have hmi : (n1 : Int) ≤ 9223372036854775807 := by unfold maxLen at hm1; omega
  rw [show (#[.int .i64 su, .string ky, .string iv] : Array Value) = kyC su ky iv from rfl]
  clear wsu wky wiv hT hI1 hl1 hm1
  by_cases hn : newE su ky iv = 0
  case neg =>
    have CN := Lib.hid (fun W => newBoxBad_any su ky iv W hn)
    have d2 : (newE su ky iv != 0) = true := by rw [bne_iff_ne]; exact hn
    generalize newE su ky iv = er at *
    clear hn
    go_enter Tryz.func5, Tryz.ntmps5
    go_wp2_with fail
    refine (CN.out _).mono ?_
    rintro e W ⟨rfl, rfl⟩
    go_wp2_with fail
    refine (CN.out _).mono ?_
    rintro e W ⟨rfl, rfl⟩
    go_wp2_with fail
    refine (rcawake_any _).mono ?_
    rintro e W1 ⟨rfl, hb1⟩
    go_wp2_with fail
    go_ret
    exact ⟨rfl, HB0.out.trans (hb1.mono HB0.out.size)⟩
  have CN := Lib.hid (fun W => newBox_any su ky iv W hn)
  have hok := new_ok su ky iv hn
  have HOK : Hid (∀ i, i ≤ 65536 → BOk ⟨su, ky, iv, i⟩) := Lib.hid (fun i hi => ⟨hok.su, hok.iv, hi⟩)
  obtain ⟨p, rfl, hpb⟩ : ∃ p : Nat, pd = (p : Int) ∧ p ≤ 255 := by
    have h2 : IntKind.u8.min ≤ pd ∧ pd ≤ IntKind.u8.max := by simpa [Lit.wf] using wpd
    rw [show IntKind.u8.min = 0 by decide, show IntKind.u8.max = 255 by decide] at h2
    exact ⟨pd.toNat, by omega, by omega⟩
  have x0 : IntKind.i64.wrap (p : Int) = (p : Int) := by rw [IntKind.wrap_i64]; omega
  obtain ⟨s0, hs, hs0, hs1, hs2⟩ := info_parts info_string
  clear hn hok wpd
  by_cases h10 : 10 < n1
  · have d1 : decide ((10 : Int) < (n1 : Int)) = true := decide_eq_true (by omega)
    go_enter Tryz.func5, Tryz.ntmps5
    go_wp2_with fail
    generalize (w.alloc _) = W0 at *
    refine (CN.out W0).mono ?_
    rintro e W1 ⟨ba, rfl, hloa, hba, hb1⟩
    have HG1 := Lib.hid (blk_below hb1 (blk_lt HG0.out) HG0.out)
    have HB1 := Lib.hid (HB0.out.trans (hb1.mono HB0.out.size))
    clear c0 c1' c2 hloa hba hb1
    obtain ⟨c0, c1', c2⟩ := ky_cells HG1.out
    go_wp2_with fail
    refine (CN.out W1).mono ?_
    rintro e W2 ⟨bb, rfl, hlob, hbb, hb2⟩
    have HB2 := Lib.hid (HB1.out.trans (hb2.mono HB1.out.size))
    clear c0 c1' c2 hlob hbb hb2
    go_wp2_with fail
    refine (rcawake_any _).mono ?_
    rintro e W3 ⟨rfl, hb3⟩
    go_wp2_with fail
    go_ret
    exact ⟨rfl, HB2.out.trans (hb3.mono HB2.out.size)⟩
  have d1 : decide ((10 : Int) < (n1 : Int)) = false := decide_eq_false (by omega)
  go_enter Tryz.func5, Tryz.ntmps5
  go_wp2_with fail
  generalize (w.alloc _) = W0 at *
  refine (CN.out W0).mono ?_
  rintro e W1 ⟨ba, rfl, hloa, hba, hb1⟩
  have HG1 := Lib.hid (blk_below hb1 (blk_lt HG0.out) HG0.out)
  have HB1 := Lib.hid (HB0.out.trans (hb1.mono HB0.out.size))
  have HA1 := Lib.hid hba
  have HLA := Lib.hid (Nat.le_trans HB0.out.size hloa)
  clear c0 c1' c2 hloa hba hb1 HG0 HB0
  obtain ⟨c0, c1', c2⟩ := ky_cells HG1.out
  go_wp2_with fail
  refine (CN.out W1).mono ?_
  rintro e W2 ⟨bb, rfl, hlob, hbb, hb2⟩
  obtain ⟨base, hbase⟩ : ∃ base, base = W2.heap.size := ⟨_, rfl⟩
  have HI0 : Hid (BxI w W2 base ba bb ⟨su, ky, iv, 0⟩ ⟨su, ky, iv, 0⟩ (.slice none 0 0) (txl su ky iv p ss 0)) := Lib.hid
    ⟨HA1.out.below hb2, hbb, Own.nil _ _, HB1.out.trans (hb2.mono HB1.out.size), by rw [hbase]; exact blk_lt (HA1.out.below hb2), by rw [hbase]; exact blk_lt hbb, by have := blk_lt HA1.out; omega, HLA.out, Nat.le_trans HB1.out.size hlob, by rw [hbase]; exact Nat.le_refl _⟩
  clear c0 c1' c2 hlob hbb hb2 HG1 HB1 HA1 HLA CN hbase
  go_wp2_with fail
  go_loopw [11, 12] (fun vv iv2 wr => ∃ (k : Nat) (ao : Option Addr) (cp : Nat), k ≤ n1 ∧ vv = .slice ao k cp ∧ iv2 = .int .i64 (k : Int) ∧ (∀ j, j < k → (ss.getD j emB).size ≤ 500) ∧ BxI w wr base ba bb ⟨su, ky, iv, k⟩ ⟨su, ky, iv, 0⟩ (.slice ao k cp) (txl su ky iv p ss k)) (fun _ iv2 _ => n1 - (intOf iv2).toNat)
  case atStart => exact ⟨0, none, 0, Nat.zero_le _, rfl, rfl, fun j hj => absurd hj (by omega), HI0.out⟩
  case round =>
    obtain ⟨k, ao, cp, hkn, rfl, rfl, hsm, hI⟩ := hrel
    have HI := Lib.hid hI
    have HM := Lib.hid hsm
    clear hI hsm HI0
    by_cases hlt : k < n1
    · have dl : decide ((k : Int) < (n1 : Int)) = true := decide_eq_true (by omega)
      have hltI : (k : Int) < (n1 : Int) := by omega
      obtain ⟨g, off, rfl, hc⟩ := HS.out k (by rw [HL1.out]; exact hlt)
      have HC := Lib.hid hc
      have hcw := cell_since HI.out.bel hc
      clear hc
      obtain ⟨d, hd⟩ : ∃ d, d = ss.getD k emB := ⟨_, rfl⟩
      rw [← hd] at hcw HC
      have HD := Lib.hid hd
      clear hd
      by_cases hbig : 500 < d.size
      · have d3 : decide ((500 : Int) < (d.size : Int)) = true := decide_eq_true (by omega)
        go_wp2_with fail
        refine (rcawake_any _).mono ?_
        rintro e W4 ⟨rfl, hb4⟩
        go_wp2_with fail
        go_ret
        exact ⟨rfl, HI.out.bel.trans (hb4.mono HI.out.bel.size)⟩
      · have d3 : decide ((500 : Int) < (d.size : Int)) = false := decide_eq_false (by omega)
        have CS := Lib.hid (back_seal (W := wr) (b := ba) (p := p) (d := d) (HOK.out k (by omega)) (by omega) (by omega) hpb (HT.out.step HI.out.bel) HI.out.a)
        have hk4 : (k : Int).tmod 4 = ((k % 4 : Nat) : Int) := by rw [Int.tmod_eq_emod_of_nonneg (by omega)]; rfl
        have hkk : 20 + ((k % 4 : Nat) : Int) ≤ 23 := by omega
        have hkl : (0 : Int) ≤ ((k % 4 : Nat) : Int) := by omega
        generalize ((k % 4 : Nat) : Int) = k4 at *
        have HTX := Lib.hid (txl_succ su ky iv p ss k)
        rw [← HD.out] at HTX
        have HLk : Hid ((svs (txl su ky iv p ss k)).length = k) := Lib.hid (by rw [svs_length, txl_length])
        have hdb : d.size ≤ 500 := by omega
        have HM2 : Hid (∀ j, j < k + 1 → (ss.getD j emB).size ≤ 500) := Lib.hid (fun j hj => by
          by_cases hjk : j < k
          · exact HM.out j hjk
          · obtain rfl : j = k := by omega
            rw [← HD.out]; exact hdb)
        clear hbig HM
        go_wp2_with fail
        refine CS.out.mono ?_
        rintro e W3 ⟨x, rfl, hxs, hxt, hxa, hxb⟩
        have HI3 := Lib.hid (HI.out.butA hxa hxb)
        have HXT := Lib.hid hxt
        have hne : ((x.size : Int) != 5 + (d.size : Int) + 1 + (p : Int) + 16) = false := by rw [bne_eq_false_iff_eq]; omega
        have hx5 : (5 : Int) ≤ (x.size : Int) := by omega
        have hcw3 := cell_since HI3.out.bel HC.out
        clear hxs hxt hxa hxb CS HI hcw
        go_wp2_with (at_builtin; refine wpList_append_sl rfl (.tmp 105) (.tmp 108) 33 rfl base 9 s0 (.string ⟨#[]⟩) 16 Tryz.underlying33 hs hs0 hs1 hs2 rfl ao k cp _ rfl (HI3.out.own.alloc _) HLk.out ⟨W3.heap.size, 0, none⟩ 1 1 [.string (x.extract 5 x.size)] rfl rfl (rb_one_new _ _ _) ?b2 ?b3 ?b4 ?b5 ?_)
        case b2 => intro u hu; simp at hu; subst hu; rfl
        case b3 => omega
        case b4 => omega
        case b5 => have := HI3.out.hw; simp; omega
        intro ao5 cp5 W5 hown5 hgrow5
        rw [svs_snoc, HXT.out] at hown5
        have HI5 := Lib.hid ((HI3.out.step (below_new W3 _)).app hown5 hgrow5)
        rw [HTX.out] at HI5
        clear hown5 hgrow5 HI3 hcw3 hne hx5
        go_wp2_with fail
        go_roundw
        case rel => exact ⟨k + 1, ao5, cp5, by omega, rfl, by go_num, HM2.out, HI5.out⟩
        case measure => simp [intOf]; omega
    · have dl : decide ((k : Int) < (n1 : Int)) = false := decide_eq_false (by omega)
      obtain rfl : k = n1 := by omega
      go_wp2_with fail
      go_loopw [15] (fun iv2 wq => ∃ i : Nat, i ≤ k ∧ iv2 = .int .i64 (i : Int) ∧ BxI w wq base ba bb ⟨su, ky, iv, k⟩ ⟨su, ky, iv, i⟩ (.slice ao k cp) (txl su ky iv p ss k)) (fun iv2 _ => k - (intOf iv2).toNat)
      case atStart => exact ⟨0, Nat.zero_le _, rfl, HI.out⟩
      case round =>
        obtain ⟨i, hik, rfl, hI2⟩ := hrel
        have HI2 := Lib.hid hI2
        clear hI2 HI
        by_cases hilt : i < k
        · have di : decide ((i : Int) < (k : Int)) = true := decide_eq_true (by omega)
          have hiI : (i : Int) < (k : Int) := by omega
          obtain ⟨g, rfl, hcs⟩ := own_text HI2.out.own (txl_length su ky iv p ss k) i hilt
          rw [txl_get su ky iv p ss k i hilt] at hcs
          obtain ⟨d, hd⟩ : ∃ d, d = ss.getD i emB := ⟨_, rfl⟩
          have hdb : d.size ≤ 500 := by rw [hd]; exact HM.out i hilt
          rw [← hd] at hcs
          have HD := Lib.hid hd
          obtain ⟨r, hr⟩ : ∃ r, r = slB su ky iv p i d := ⟨_, rfl⟩
          have hrs : r.size = d.size + p + 17 := by rw [hr]; exact slB_size su ky iv p i d (HOK.out i (by omega))
          rw [← hr] at hcs
          have HR := Lib.hid hr
          obtain ⟨q, hq⟩ : ∃ q, q = r.size - 1 - i := ⟨_, rfl⟩
          have hq1 : q < r.size := by omega
          obtain ⟨cap, hcv, hown, hbo⟩ := conv_bytes r wr
          have hrl : r.data.toList.length = r.size := (Lib.size_eq r).symm
          obtain ⟨cq, fq⟩ := own_byte hown q (by rw [hrl]; exact hq1)
          have HX2 : bits .xor .u8 ((r.data.toList.getD q 0).toNat : Int) 1 = ((r.data.toList.getD q 0 ^^^ 1).toNat : Int) := byte_eor (r.data.toList.getD q 0) 1
          have hput := own_byte_put hown q (by rw [hrl]; exact hq1) (r.data.toList.getD q 0 ^^^ 1)
          have hcv2 := conv_text_own hput (n := r.size) (by rw [List.length_set]; exact hrl) cap
          rw [show (⟨(r.data.toList.set q (r.data.toList.getD q 0 ^^^ 1)).toArray⟩ : ByteArray) = flipB r q from rfl] at hcv2
          have hbo2 : Below wr.heap.size wr ((Lib.bytesWorld wr 5 r).setCell ⟨wr.heap.size, q, none⟩ (.int .u8 ((r.data.toList.getD q 0 ^^^ 1).toNat : Int))) := hbo.setCell (by simp) _
          have HI3 := Lib.hid (HI2.out.step hbo2)
          have CF := Lib.hid (back_flip (p := p) (d := d) (HOK.out i (by omega)) (by omega) hdb hpb q (by omega) (by omega) (HT.out.step HI3.out.bel) HI3.out.b)
          rw [← HR.out] at CF
          have hw3 : ((r.size : Int) - 1 - (i : Int)).toNat = q := by omega
          have hw4 : (0 : Int) ≤ (r.size : Int) - 1 - (i : Int) := by omega
          have hw5 : (r.size : Int) - 1 - (i : Int) < (r.size : Int) := by omega
          have hw6 : IntKind.i64.wrap ((r.size : Int) - 1) = (r.size : Int) - 1 := IntWalk.i64_in _ (by omega)
          have hw7 : IntKind.i64.wrap ((r.size : Int) - 1 - (i : Int)) = (r.size : Int) - 1 - (i : Int) := IntWalk.i64_in _ (by omega)
          have hrp : 17 ≤ r.size := by omega
          have hrm : r.size ≤ 800 := by omega
          have CO := Lib.hid (fun W (hq2 : TabQ W) (hx : BxAt W bb ⟨su, ky, iv, i⟩) => back_open (W := W) (b := bb) (p := p) (d := d) (HOK.out i (by omega)) (by omega) hdb hpb hq2 hx)
          rw [← HR.out] at CO
          obtain ⟨g2, off2, ha2, hc2⟩ := HS.out i (by rw [HL1.out]; exact hilt)
          subst ha2
          rw [← HD.out] at hc2
          have HC2 := Lib.hid hc2
          have hk4 : (i : Int).tmod 4 = ((i % 4 : Nat) : Int) := by rw [Int.tmod_eq_emod_of_nonneg (by omega)]; rfl
          have hkk : 20 + ((i % 4 : Nat) : Int) ≤ 23 := by omega
          have hkl : (0 : Int) ≤ ((i % 4 : Nat) : Int) := by omega
          have CC := Lib.hid (fun W (j : Nat) (hx : BxAt W bb ⟨su, ky, iv, j⟩) => count_any bb ⟨su, ky, iv, j⟩ W hx)
          have ex : (d.toList == d.toList) = true := by simp
          clear hput hown hbo hbo2 hr hd hq hrs hq1 hrl hc2
          generalize ((i % 4 : Nat) : Int) = k4 at *
          generalize (r.data.toList.getD q 0 ^^^ 1).toNat = xx at *
          generalize (r.data.toList.getD q 0).toNat = x0v at *
          generalize flipB r q = fl at *
          go_wp2_with fail
          clear cq fq hcv hcv2 hcs
          generalize World.setCell _ _ _ = W5 at *
          refine CF.out.mono ?_
          rintro e W6 ⟨rfl, hxb, hbt⟩
          have HI6 := Lib.hid (HI3.out.butB hxb hbt)
          clear hxb hbt HI3 HI2 CF
          go_wp2_with fail
          refine (CC.out _ _ HI6.out.b).mono ?_
          rintro e W ⟨rfl, rfl⟩
          obtain ⟨g3, hg3, hcs⟩ := own_text HI6.out.own (txl_length su ky iv p ss k) i hilt
          rw [txl_get su ky iv p ss k i hilt, ← HD.out, ← HR.out] at hcs
          injection hg3 with hg3
          injection hg3 with hg3
          subst hg3
          go_wp2_with fail
          refine (CO.out _ (HT.out.step HI6.out.bel) HI6.out.b).mono ?_
          rintro e W7 ⟨rfl, hxb, hbt⟩
          have HI7 := Lib.hid (HI6.out.butB hxb hbt)
          have hcw7 := cell_since HI7.out.bel HC2.out
          clear hxb hbt HI6 CO hcs
          go_wp2_with fail
          refine (CC.out _ _ HI7.out.b).mono ?_
          rintro e W ⟨rfl, rfl⟩
          go_wp2_with fail
          go_roundw
          case rel => exact ⟨i + 1, by omega, by go_num, HI7.out⟩
          case measure => simp [intOf]; omega
        · have di : decide ((i : Int) < (k : Int)) = false := decide_eq_false (by omega)
          have CC := Lib.hid (fun W (hx : BxAt W ba ⟨su, ky, iv, k⟩) => count_any ba ⟨su, ky, iv, k⟩ W hx)
          go_wp2_with fail
          refine (CC.out _ HI2.out.a).mono ?_
          rintro e W4 ⟨rfl, rfl⟩
          go_wp2_with fail
          refine (rcawake_any _).mono ?_
          rintro e W4 ⟨rfl, hb4⟩
          go_wp2_with fail
          go_ret
          exact ⟨rfl, HI2.out.bel.trans (hb4.mono HI2.out.bel.size)⟩

theorem recordBack_laidOut : laidOutB Tryz.prog = true := by kernel_rfl
theorem recordBack_lifted (os : Os) (started : os.Started) (H : Type) (enc : TypeId × Value → H) :
    ReturnsInHanded {} Tryz.checked os 5 .any (fun w args => (Rows.recordBackSpec.pre enc Tryz.prog Tryz.f5 [] false w args ∧ laidMetH Tryz.prog laid3 w) ∧ sizedMet enc Tryz.prog Tryz.f5 (OpenSpec.ofChange Rows.recordBackSpec) false w args)
      (Rows.recordBackSpec.post enc Tryz.prog Tryz.f5 false true false false) := by
  refine returnsInHanded_of_change_and (C := Tryz.checked) (X := fun w _ => laidMetH Tryz.prog laid3 w) (fun _ _ _ hh h => h.of_heap hh) own3 started (by kernel_rfl) Tryz.func5
    (ChangeSpec.witness_shaped (enc := enc) (C := Tryz.checked) (os := os) (X := fun w _ => laidMetH Tryz.prog laid3 w) false (World.laidAll Tryz.prog os laid3) #[.agg #[.int .i64 0, .string ⟨#[]⟩, .string ⟨#[]⟩], .slice none 0 0, .int .u8 0] 8 (World.laidAll_os _ _ _) (World.shaped_of_ZipB (by kernel_rfl) (by kernel_rfl)) (by kernel_rfl) (by kernel_rfl) (by kernel_rfl) (door_met3 os _)) ?_
  intro W base args ds gs before hval0 hW _ _ hL _
  have hval : ∀ (j : Nat) t v, Tryz.f5.params[j]? = some t → args[j]? = some v → Value.okWide Tryz.prog W .any base t v := hval0
  have hW' := hW
  obtain ⟨p, q, hA0, hV, rfl, hfz, hnd⟩ := hW
  have hA : DataW.TrodAll enc Tryz.prog W 0 (fun _ => true) true Tryz.f5.params.toList args.toList ds p := hA0
  rw [Tryz.params5] at hA hval
  obtain ⟨v0, v1, v2, d0, d1, d2, p0, p1, p2, rfl, rfl, rfl, h0, h1, h2⟩ := trodAll_three hA
  obtain ⟨rfl, rfl⟩ := trodVars_none hV
  have hT := of_laid3 hL
  clear hA0 hval0
  simp only [List.append_nil, List.nil_append] at hW'
  obtain ⟨su, ky, iv, rfl, rfl, rfl, wsu, wky, wiv⟩ := open_keys (hval 0 23 v0 rfl rfl) h0
  obtain ⟨a1, n1, c1, rfl⟩ := okWide_slice Tryz.underlying33 (hval 1 33 v1 rfl rfl)
  have hk1 := h1
  obtain ⟨l1, hl1, hm1, hI1⟩ := st_open h1
  obtain ⟨s2, rfl, rfl, rfl, w2⟩ := open_int Tryz.underlying5 (hval 2 5 v2 rfl rfl) h2
  try simp only [List.append_nil, List.nil_append] at hW'
  have hlt1 : ∀ x ∈ p1, x.block < W.heap.size := fun x hx => hW'.lt x (by simp [hx])
  refine (recordBack_any W su ky iv wsu wky wiv a1 n1 c1 l1 hl1 hI1 hm1 s2 w2 hT).mono fun e W' ⟨he, hb⟩ => ?_
  subst he
  refine ⟨_, rfl, _, _, _, [], [] ++ p1 ++ [], [], hW', ?_, ?_, rfl, hb.frame _, fun h => by cases h⟩
  · exact trodAll_mk1 (shut_bool Tryz.underlying4 _)
  · exact trodAll_mk3 (shut_keys wsu wky wiv) (Below.trod recordBack_laidOut (by kernel_rfl) (of_decide_eq_true (by kernel_rfl)) hk1 hb hlt1) (shut_int Tryz.underlying5 w2)

theorem recordBack_holds : Rows.RecordBackSaid :=
  OpenClaim.holds_of_wide 5 Tryz.f5 rfl rfl rfl rfl rfl rfl rfl ⟨rfl, rfl, rfl, rfl, rfl⟩ rfl rfl rfl rfl rfl (by kernel_rfl) Tryz.func5 (by kernel_rfl)
    (of_decide_eq_true (by kernel_rfl)) (by unfold Func.isWrapper; first | (rw [if_pos (by decide +kernel)]; kernel_rfl) | (rw [if_neg (by decide +kernel)]; exact ⟨rfl, rfl⟩))
    (fun os started H enc _ => recordBack_lifted os started H enc)

theorem recordBack_card : Rows.RecordBackCardSaid :=
  Claim7.holds_tied_plain_at .later [] [.data, .data, .pinned] true (true, "fde69174d6d408d6131d9502f858b52fb59510ff617c3c2862b0d153e04c42c2") false
    recordBack_holds (fun _ h => by cases h) (by kernel_rfl) (fun _ h => by cases h) recordBack_row_tie rfl ⟨rfl, rfl⟩ (by kernel_rfl) rfl
    (fun f fn hf hfn => by
      obtain rfl : f = 5 := Option.some.inj ((show Tryz.prog.funcNamed "cresset/cressetlaw15.RecordBack" = some 5 by kernel_rfl).symm.trans hf) |>.symm
      obtain rfl : fn = Tryz.f5 := (Option.some.inj (Tryz.func5.symm.trans hfn)).symm
      exact ⟨by kernel_rfl, fun j t ht => by
        rw [Tryz.params5] at ht
        have hm : t ∈ [23, 33, 5] := by simpa using Array.mem_of_getElem? ht
        have hall : ([23, 33, 5].all fun u => !Tryz.prog.wantsStandIn u) = true := by kernel_rfl
        exact (show Tryz.prog.wantsStandIn t = false by simpa using List.all_eq_true.1 hall t hm)⟩)
    (by kernel_rfl)
#print axioms recordBack_card
end Go.Proofs.YtffnafikegakcaaGreatDoor
