/- sha.digest at words of 64 bits, and Sum512: the digest of a text of at most 2^40 bytes. -/
import Derived.Test.YthcfolefdalaiaaDoorSum64
import Derived.Test.YthcfolefdalaiaaDoorPad512
namespace Go.Proofs.YthcfolefdalaiaaDoor
open Go.RowKit Go.Sort
set_option maxRecDepth 100000
set_option linter.unusedSimpArgs false
set_option linter.unusedVariables false

/-- The digest of 64 bytes. -/
def sha512L (K H : Nat → Int) (l : List UInt8) : List UInt8 := dig64 (full64 (fun t => K t) (init64 H) (l ++ padL 128 16 l.length))
theorem full64_append (K : Nat → Int) (st : W8) (l m : List UInt8) : full64 K (full64 K st l) (tail128 l ++ m) = full64 K st (l ++ m) ∧ tail128 (tail128 l ++ m) = tail128 (l ++ m) := by
  induction h : l.length / 128 generalizing st l with
  | zero =>
    have hs := full64_short K st l (by omega)
    rw [hs.1, hs.2]
    exact ⟨rfl, rfl⟩
  | succ k ih =>
    have hl : 128 ≤ l.length := by omega
    have h1 := full64_long K st l hl
    have h2 := full64_long K st (l ++ m) (by rw [List.length_append]; omega)
    have e1 : (l ++ m).take 128 = l.take 128 := by rw [List.take_append, show 128 - l.length = 0 by omega]; simp
    have e2 : (l ++ m).drop 128 = l.drop 128 ++ m := by rw [List.drop_append, show 128 - l.length = 0 by omega]; simp
    have := ih (comp64 K st (l.take 128)) (l.drop 128) (by rw [List.length_drop]; omega)
    rw [h1.1, h1.2, h2.1, h2.2, e1, e2]
    exact this

set_option maxHeartbeats 1000000 in
set_option maxRecDepth 100000 in
theorem digest64_any (K H : Nat → Int) (data : ByteArray) (w : World) (hK : TabK w K) (hH : TabH w H) (hd : data.size ≤ 1099511627776) :
    Calls Tryd.prog 31 #[prm512, .string data] w fun e w' => e = .returned (.string ⟨(sha512L K H data.data.toList).toArray⟩) ∧ Below w.heap.size w w' := by
  have hP0 : PrmBt (w.alloc (.cells #[.int .i64 128, .int .i64 80, .int .u64 1, .int .u64 8, .int .u64 7, .int .u64 19, .int .u64 61, .int .u64 6, .int .u64 14, .int .u64 18, .int .u64 41, .int .u64 28, .int .u64 34, .int .u64 39] 52)) w.heap.size := blk_new w _
  have hB0 := below_new w (.cells #[.int .i64 128, .int .i64 80, .int .u64 1, .int .u64 8, .int .u64 7, .int .u64 19, .int .u64 61, .int .u64 6, .int .u64 14, .int .u64 18, .int .u64 41, .int .u64 28, .int .u64 34, .int .u64 39] 52)
  have hT0 := hK.below hB0 hK.lt
  have hU0 := hH.below hB0 hH.lt
  have HZ := Lib.hid (zero_of_info info10_64)
  have hlow := hK.lt
  go_enter Tryd.func31, Tryd.ntmps31
  go_wp2_with fail
  generalize (w.alloc _) = W at *
  generalize hBB : w.heap.size = B at *
  have HBB := Lib.hid hBB
  have HP := Lib.hid hP0
  clear hBB hP0 hK hH
  refine (start64_any H _ hU0).mono ?_
  rintro e W1 ⟨rfl, hb1⟩
  have hP1 := HP.out.below hb1 (blk_lt HP.out)
  have hT1 := hT0.below hb1 hT0.lt
  have hB1 : Below B w W1 := hB0.trans (hb1.mono (Nat.le_of_lt (blk_lt HP.out)))
  have hl1 : B < W1.heap.size := blk_lt hP1
  have hz := HZ.out.1
  have HI := Lib.hid (show (Tryd.prog.info? 65).map (·.size) = some (rc64 [] [] (init64 H) ⟨#[]⟩ 0).size from HZ.out.2)
  have HO := Lib.hid (show (rc64 [] [] (ofFn fun _ => 0) ⟨#[]⟩ 0).size = (rc64 [] [] (init64 H) ⟨#[]⟩ 0).size from rfl)
  have H1 := Lib.hid (show (rc64 [] [] (init64 H) ⟨#[]⟩ 0).all (·.oneCell') = true from by simp [rc64, Value.oneCell'])
  have HG := Lib.hid (blk_new W1 (.cells (rc64 [] [] (ofFn fun _ => 0) ⟨#[]⟩ 0) 65))
  have hR2 := setRow_heap (W1.alloc (.cells (rc64 [] [] (ofFn fun _ => 0) ⟨#[]⟩ 0) 65)) W1.heap.size _ (rc64 [] [] (init64 H) ⟨#[]⟩ 0) _ _ HG.out
  have hP2 : PrmBt ((W1.alloc (.cells (rc64 [] [] (ofFn fun _ => 0) ⟨#[]⟩ 0) 65)).setRow W1.heap.size (rc64 [] [] (init64 H) ⟨#[]⟩ 0)) B := (setRow_other _ _ _ _ (by omega)).trans (blk_old hP1)
  have hB2 : Below W1.heap.size W1 ((W1.alloc (.cells (rc64 [] [] (ofFn fun _ => 0) ⟨#[]⟩ 0) 65)).setRow W1.heap.size (rc64 [] [] (init64 H) ⟨#[]⟩ 0)) := below_setRow (below_new W1 _) (Nat.le_refl _) _
  have hT2 := hT1.below hB2 hT1.lt
  have hB3 : Below B w ((W1.alloc (.cells (rc64 [] [] (ofFn fun _ => 0) ⟨#[]⟩ 0) 65)).setRow W1.heap.size (rc64 [] [] (init64 H) ⟨#[]⟩ 0)) := hB1.trans (hB2.mono (by omega))
  obtain ⟨c0, c1, c2, c3, c4, c5, c6, c7, c8, c9, c10, c11, c12, c13⟩ := hP2.cells
  have HP2 := Lib.hid hP2; have HR2 := Lib.hid hR2
  clear HP hP1 hT1 hB1 hB0 hT0 hU0 hb1 hP2 hR2 hB2
  go_wp2_with (with_reducible refine wpList_store_row rfl 65 _ _ rfl W1.heap.size (rc64 [] [] (init64 H) ⟨#[]⟩ 0) rfl rfl 65 _ HG.out HI.out HO.out H1.out ?_)
  clear HI HO H1 HG hz c0 c1 c2 c3 c4 c5 c6 c7 c8 c9 c10 c11 c12 c13
  generalize (W1.alloc _).setRow _ _ = W2 at *
  have hl2 := blk_lt HR2.out
  generalize W1.heap.size = G at *
  refine (write64_any K G 65 [] [] (init64 H) ⟨#[]⟩ data 0 W2 HR2.out hT2 (by omega) (by decide) hd (by omega) (by omega)).mono ?_
  rintro e W3 ⟨rfl, rest, hrest, hrun3, hbut3⟩
  have hP3 : PrmBt W3 B := (hbut3.block _ (blk_lt HP2.out) (by omega)).trans HP2.out
  have hB4 : Below B w W3 := hB3.trans (hbut3.below (by omega) (by omega))
  have hT3 : TabK W3 K := fun t ht => by
    have e : W3.heap[1]? = W2.heap[1]? := hbut3.block _ hT2.lt (by omega)
    rw [← hT2 t ht]
    exact World.cell?_of_block (a := ⟨1, t, none⟩) e
  simp only [List.nil_append, Int.zero_add] at hrest hrun3
  have hrs : rest.size < 128 := by rw [Lib.size_eq, hrest]; exact tail128_length _
  have HE : Hid (sha512L K H data.data.toList = dig64 (full64 (fun t => K t) (full64 (fun t => K t) (init64 H) data.data.toList) (rest.data.toList ++ padL 128 16 data.size))) := Lib.hid (by
    rw [hrest, (full64_append _ _ _ _).1, sha512L, ← Lib.size_eq])
  generalize hst : full64 (fun t => K t) (init64 H) data.data.toList = st at *
  have HI := Lib.hid (show (Tryd.prog.info? 65).map (·.size) = some (rc64 [] [] st rest data.size).size from HZ.out.2)
  have HR3 := Lib.hid hrun3; have HP3 := Lib.hid hP3
  obtain ⟨c0, c1, c2, c3, c4, c5, c6, c7, c8, c9, c10, c11, c12, c13⟩ := hP3.cells
  clear hrest hrun3 hst hbut3 HP2 HR2 hP3 hT2 hB3
  go_wp2_with (with_reducible refine wpList_load_row rfl 65 _ rfl G rfl 65 _ (0, 0) _ HR3.out Tryd.underlying65 rfl HI.out ?_)
  refine (sum64_any K st rest data.size W3 hT3 hrs hd).mono ?_
  rintro e W4 ⟨rfl, hb4⟩
  clear c0 c1 c2 c3 c4 c5 c6 c7 c8 c9 c10 c11 c12 c13
  go_wp2_with fail
  go_ret
  exact ⟨by rw [HE.out]; rfl, by rw [HBB.out]; exact hB4.trans (hb4.mono (Nat.le_of_lt (blk_lt HP3.out)))⟩

theorem sum512_any (K H : Nat → Int) (data : ByteArray) (w : World) (hK : TabK w K) (hH : TabH w H) (hd : data.size ≤ 1099511627776) :
    Calls Tryd.prog 13 #[.string data] w fun e w' => e = .returned (.string ⟨(sha512L K H data.data.toList).toArray⟩) ∧ Below w.heap.size w w' := by
  go_enter Tryd.func13, Tryd.ntmps13
  go_wp2_with fail
  refine (parameters512_any _).mono ?_
  rintro e W1 ⟨rfl, hb1⟩
  go_wp2_with fail
  refine (digest64_any K H data W1 (hK.below hb1 hK.lt) (hH.below hb1 hH.lt) hd).mono ?_
  rintro e W2 ⟨rfl, hb2⟩
  go_wp2_with fail
  go_ret
  exact ⟨rfl, hb1.trans (hb2.mono hb1.size)⟩
end Go.Proofs.YthcfolefdalaiaaDoor
