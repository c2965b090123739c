/- ShaTakes at size 64: the digest of pieces. -/
import Derived.Test.YthcfolefdalaiaaDoorHash
import Derived.Test.YthcfolefdalaiaaDoorRefSum64
namespace Go.Proofs.YthcfolefdalaiaaDoor
open Go.RowKit Go.Sort
set_option maxRecDepth 100000
set_option linter.unusedSimpArgs false
set_option linter.unusedVariables false

set_option maxHeartbeats 4000000 in
theorem takes64_any (ao : Option Addr) (len cap : Nat) (f : Nat → ByteArray) (w : World) (hlen : len ≤ maxLen)
    (hc : ∀ j, j < len → ∃ g off, ao = some ⟨g, off, none⟩ ∧ g < w.heap.size ∧ w.cell? ⟨g, off + j, none⟩ = some (.string (f j)) ∧ (f j).size ≤ maxLen) (hK : TabK w kf) (hH : TabH w hf) :
    Calls Tryd.prog 4 #[.int .i64 64, .slice ao len cap] w fun e w' => e = .returned (.bool true) ∧ Below w.heap.size w w' := by
  unfold maxLen at hlen
  have HC := Lib.hid hc
  clear hc
  go_enter Tryd.func4, Tryd.ntmps4
  go_wp2_with fail
  refine (new64 kf hf w hH).mono ?_
  rintro e W1 ⟨b, rfl, hbB, hh1, hb1⟩
  have hgK := hK.lt; have hgH := hH.lt
  have hsz1 := hb1.size
  generalize hBB : w.heap.size = B at *
  have HBB := Lib.hid hBB
  have HK := Lib.hid hK; have HH := Lib.hid hH; have HH1 := Lib.hid hh1
  clear hBB hK hH hh1
  go_wp2_with fail
  go_loopw [7, 8] (fun sv iv wr => ∃ (i : Nat) (s : ByteArray), i ≤ 30 ∧ i ≤ len + 1 ∧ s.size ≤ 1000 * i ∧ sv = .string s ∧ iv = .int .i64 i ∧ Hash64 wr kf hf b s.data.toList ∧ Below B w wr ∧ B ≤ wr.heap.size) (fun _ iv _ => 31 - (intOf iv).toNat)
  case atStart => exact ⟨0, ⟨#[]⟩, by omega, by omega, by decide, rfl, rfl, HH1.out, hb1, hsz1⟩
  case round =>
    clear HH1 hb1 hsz1
    obtain ⟨i, s, hi30, hil1, hss, rfl, rfl, hh, hb, hsz⟩ := hrel
    have HHs := Lib.hid hh
    clear hh
    by_cases hgo : i ≤ len ∧ i < 30
    · have hd1 : (i : Int) ≤ (len : Int) := by omega
      have hd2 : (i : Int) < 30 := by omega
      have hsl : s.data.toList.length = s.size := (Lib.size_eq s).symm
      have HS : Hid (∀ W, Hash64 W kf hf b s.data.toList → TabK W kf → Calls Tryd.prog 18 #[.pointer (some ⟨b, 0, none⟩)] W fun e w' => e = .returned (.string ⟨(sha512L kf hf s.data.toList).toArray⟩) ∧ Below W.heap.size W w') := Lib.hid (fun W h hK => hashSum64 kf hf b s.data.toList W h hK (by omega))
      have HW5 := Lib.hid (fun W => refSum64_any s W (by omega))
      generalize (⟨(sha512L kf hf s.data.toList).toArray⟩ : ByteArray) = x at *
      have ex : (x.toList == x.toList) = true := by simp
      clear hsl
      have hblt := HHs.out.lt
      go_wp2_with fail
      refine (HW5.out wr).mono ?_
      rintro e W2 ⟨rfl, hb2⟩
      have HH2 := Lib.hid (HHs.out.kept (hb2.block b hblt))
      have hB2 : Below B w W2 := hb.trans (hb2.mono hsz)
      have hsz2 := Nat.le_trans hsz hb2.size
      clear HHs hb hb2 hsz hblt
      have hblt := HH2.out.lt
      go_wp2_with fail
      refine (HS.out W2 HH2.out (HK.out.below hB2 hgK)).mono ?_
      rintro e W4 ⟨rfl, hb4⟩
      have HH4 := Lib.hid (HH2.out.kept (hb4.block b hblt))
      have hB4 : Below B w W4 := hB2.trans (hb4.mono hsz2)
      have hsz4 := Nat.le_trans hsz2 hb4.size
      clear HH2 hB2 hb4 hsz2 hblt
      have hblt := HH4.out.lt
      go_wp2_with fail
      refine (HS.out W4 HH4.out (HK.out.below hB4 hgK)).mono ?_
      rintro e W5 ⟨rfl, hb5⟩
      have HH5 := Lib.hid (HH4.out.kept (hb5.block b hblt))
      have hB5 : Below B w W5 := hB4.trans (hb5.mono hsz4)
      have hsz5 := Nat.le_trans hsz4 hb5.size
      clear HH4 hB4 hb5 hsz4 hblt HS HW5
      by_cases hil : i < len
      · obtain ⟨g, off, rfl, hg, hcell, hfs⟩ := HC.out i hil
        unfold maxLen at hfs
        have c5 := (hB5.cell (p := ⟨g, off + i, none⟩) hg).trans hcell
        have hd3 : (i : Int) < (len : Int) := by omega
        clear hcell
        generalize hp : f i = p at *
        by_cases hlong : 1000 < p.size
        · have hd4 : decide ((1000 : Int) < (p.size : Int)) = true := by simp; omega
          go_wp2_with fail
          refine (awake_any W5 (HK.out.below hB5 hgK) (HH.out.below hB5 hgH)).mono ?_
          rintro e W6 ⟨rfl, hb6⟩
          go_wp2_with fail
          go_ret
          exact ⟨rfl, by rw [HBB.out]; exact hB5.trans (hb6.mono hsz5)⟩
        · have hd4 : decide ((1000 : Int) < (p.size : Int)) = false := by simp; omega
          go_wp2_with fail
          refine (hashWrite64 kf hf b s.data.toList p W5 HH5.out (HK.out.below hB5 hgK) (by omega) (by rw [← Lib.size_eq]; omega) (by omega)).mono ?_
          rintro e W6 ⟨rfl, hh6, hbut⟩
          have hb6 : Below B W5 W6 := hbut.below hbB hsz5
          have hB6 : Below B w W6 := hB5.trans hb6
          have hsz6 := Nat.le_trans hsz5 hb6.size
          have c6 := (hb6.cell (p := ⟨g, off + i, none⟩) hg).trans c5
          have HH6 := Lib.hid (show Hash64 W6 kf hf b (s ++ p).data.toList from by
            have e : (s ++ p).data.toList = s.data.toList ++ p.data.toList := by simp
            rw [e]; exact hh6)
          have HSZ := Lib.hid (show (s ++ p).size ≤ 1000 * (i + 1) from by rw [ByteArray.size_append]; omega)
          clear HH5 hh6 hbut hb6 hB5 c5 hsz5
          go_wp2_with fail
          go_roundw
          case rel => exact ⟨i + 1, s ++ p, by omega, by omega, HSZ.out, rfl, by go_num, HH6.out, hB6, hsz6⟩
          case measure => simp [intOf]; omega
      · have hd3 : ¬ (i : Int) < (len : Int) := by omega
        go_wp2_with fail
        go_roundw
        case rel => exact ⟨i + 1, s, by omega, by omega, by omega, rfl, by go_num, HH5.out, hB5, hsz5⟩
        case measure => simp [intOf]; omega
    · by_cases hle : i ≤ len
      · have hd1 : (i : Int) ≤ (len : Int) := by omega
        have hd2 : ¬ (i : Int) < 30 := by omega
        go_wp2_with fail
        refine (awake_any wr (HK.out.below hb hgK) (HH.out.below hb hgH)).mono ?_
        rintro e W6 ⟨rfl, hb6⟩
        go_wp2_with fail
        go_ret
        exact ⟨rfl, by rw [HBB.out]; exact hb.trans (hb6.mono hsz)⟩
      · have hd1 : ¬ (i : Int) ≤ (len : Int) := by omega
        go_wp2_with fail
        refine (awake_any wr (HK.out.below hb hgK) (HH.out.below hb hgH)).mono ?_
        rintro e W6 ⟨rfl, hb6⟩
        go_wp2_with fail
        go_ret
        exact ⟨rfl, by rw [HBB.out]; exact hb.trans (hb6.mono hsz)⟩
end Go.Proofs.YthcfolefdalaiaaDoor
