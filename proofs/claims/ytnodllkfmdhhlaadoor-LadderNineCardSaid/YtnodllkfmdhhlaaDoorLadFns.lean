/- The program's scalar, its bits, and the number of a public key. -/
import Derived.Test.YtnodllkfmdhhlaaDoorLadRung
import Derived.Test.YtnodllkfmdhhlaaDoorLadByte
namespace Go.Proofs.YtnodllkfmdhhlaaDoor
open Go.RowKit Go.Sort
set_option maxRecDepth 100000
set_option linter.unusedSimpArgs false
set_option linter.unusedVariables false

theorem infoS : (Tryd.prog.info? 39).map (fun i => (i.zero, i.size)) = some (some (.agg bzeros32), 32) := by kernel_rfl
theorem sizeS (l : List UInt8) (h : l.length = 32) : (Tryd.prog.info? 39).map (·.size) = some (bcells l).size := by rw [bcells_size, h]; exact (zero_of_info infoS).2
theorem zerosS_size (l : List UInt8) (h : l.length = 32) : bzeros32.size = (bcells l).size := by rw [bcells_size, h]; exact bcells_size _

set_option maxHeartbeats 1000000 in
theorem bit_any (kl : List UInt8) (n : Nat) (w : World) (hl : kl.length = 32) (hn : n < 255) :
    Calls Tryd.prog 25 #[.agg (bcells kl), .int .i64 (n : Int)] w fun e w' => e = .returned (.agg (uc (limN 4 (bitL kl n)))) ∧ Below w.heap.size w w' := by
  obtain ⟨hz, hi⟩ := zero_of_info infoF
  have HK := Lib.hid (blk_old (o := .cells zeros4 36) (blk_new w (.cells (bcells kl) 39)))
  have HR := Lib.hid (blk_new2 w (.cells (bcells kl) 39) (.cells zeros4 36))
  have hb := below_new2 w (.cells (bcells kl) 39) (.cells zeros4 36)
  have hbit := lad_bit kl n
  have cx := bcell_at HK.out (n / 8) (by rw [hl]; omega)
  have f1 : ((n : Int) / 8).toNat = n / 8 := by omega
  have f2 : ((n : Int) % 8).toNat = n % 8 := by omega
  have HS := Lib.hid (fun W => smallPos_any (bitL kl n) W (by have := bitL_lt kl n; omega))
  have Ir := Lib.hid (sizeF' (bitL kl n)); have Zr := Lib.hid (zerosF_size (bitL kl n)); have Or := Lib.hid (uc_one (limN 4 (bitL kl n)))
  have hlt := bitL_lt kl n
  have hwr : IntKind.i64.wrap ((bitL kl n : Nat) : Int) = ((bitL kl n : Nat) : Int) := by rcases bitL_cases kl n with h | h <;> rw [h] <;> rfl
  generalize bitL kl n = b at *
  generalize (kl.getD (n / 8) 0).toNat = kb at *
  clear hi hl hlt
  go_enter Tryd.func25, Tryd.ntmps25
  go_wp2_with fail
  clear hz
  generalize ((w.alloc _).alloc _) = W0 at *
  have hB := hb.size
  generalize hBB : w.heap.size = B at *
  refine (HS.out W0).mono ?_
  rintro e W1 ⟨rfl, bk⟩
  have HR1 := Lib.hid (blk_below bk (blk_lt HR.out) HR.out)
  have hb1 := hb.trans (bk.mono hB)
  clear HS HR HK bk hb cx
  go_wp2_with (with_reducible refine wpList_store_row rfl 36 _ _ rfl (B + 1) (uc (limN 4 b)) rfl rfl 36 _ HR1.out Ir.out Zr.out Or.out ?_)
  exact bodyPost_ret (v := .agg (uc (limN 4 b))) (results_cell_row (by rfl) _ _ (B + 1) 36 _ (0, 0) _ rfl (setRow_heap _ _ _ _ _ _ HR1.out) Tryd.underlying36 rfl Ir.out) rfl ⟨rfl, by rw [hBB]; exact below_setRow hb1 (by omega) _⟩

/-- Bytes without some bits. -/
theorem byte_not (x y z : UInt8) (h : ~~~y = z) : bits .andNot .u8 (x.toNat : Int) (y.toNat : Int) = ((x &&& z).toNat : Int) := by
  subst h
  show IntKind.u8.wrap ((BitVec.ofInt 8 (x.toNat : Int) &&& ~~~BitVec.ofInt 8 (y.toNat : Int)).toNat : Nat) = _
  have hx : BitVec.ofInt 8 (x.toNat : Int) = x.toBitVec := by apply BitVec.eq_of_toNat_eq; simp
  have hy : BitVec.ofInt 8 (y.toNat : Int) = y.toBitVec := by apply BitVec.eq_of_toNat_eq; simp
  rw [hx, hy]
  have h := (x &&& ~~~y).toNat_lt
  have e : (x.toBitVec &&& ~~~y.toBitVec).toNat = (x &&& ~~~y).toNat := rfl
  rw [e, IntKind.wrap_u8]
  omega
theorem not_low (x : UInt8) : bits .andNot .u8 (x.toNat : Int) 7 = ((x &&& 248).toNat : Int) := byte_not x 7 248 rfl
theorem not_top (x : UInt8) : bits .andNot .u8 (x.toNat : Int) 128 = ((x &&& 127).toNat : Int) := byte_not x 128 127 rfl
theorem or_low64 (x : UInt8) : bits .or .u8 (x.toNat : Int) 64 = ((x ||| 64).toNat : Int) := byte_ior x 64

/-- The copy of a text of 32 bytes into a new scalar. -/
theorem copy_scalar (V : World) (g : Nat) (k : ByteArray) (hk : k.size = 32) (hg : V.heap[g]? = some (.cells bzeros32 39)) :
    (Builtin.copy_ #[29, 9] 3 #[.slice (some ⟨g, 0, none⟩) 32 32, .string k]).run Tryd.prog V = .ok (.int .i64 32) (V.setRow g (bcells k.data.toList)) := by
  obtain ⟨i0, hi, hz0, hz1, hz2⟩ := info_parts info_u8
  have hkl : k.data.toList.length = 32 := by rw [← Lib.size_eq]; exact hk
  have hlen : (Lib.byteCells k.data.toList).length = 32 := by rw [Lib.byteCells_length, hkl]
  have hst := _root_.Go.run_storeCells_at Tryd.prog g 0 39 (Lib.byteCells k.data.toList) 0 bzeros32 V hg (by rw [hlen, show bzeros32.size = 32 from bcells_size _]; omega) (Lib.byteCells_one _)
  have htk : List.take 32 (List.map (fun b : UInt8 => Value.int IntKind.u8 (b.toNat : Int)) k.data.toList) = Lib.byteCells k.data.toList := by
    rw [List.take_of_length_le (by rw [List.length_map, hkl]; exact Nat.le_refl _)]; rfl
  have hfin : (List.take 0 bzeros32.toList ++ Lib.byteCells k.data.toList ++ List.drop (0 + 32) bzeros32.toList).toArray = bcells k.data.toList := by
    rw [List.drop_of_length_le (by rw [show bzeros32.toList.length = 32 from bcells_size _]; exact Nat.le_refl _)]
    simp [bcells]
  rw [hlen] at hst
  simp only [Nat.add_zero, Nat.zero_add, List.take_zero, List.nil_append] at hst hfin
  have hq := hi
  simp [Builtin.copy_, run_underlying Tryd.underlying29, Builtin.lenOf, Builtin.firstCells, sizeOf, typeInfo, hq, hz1, hk]
  rw [htk, hst, hfin]
  rfl

set_option maxHeartbeats 2000000 in
theorem scalarOf_any (s : ByteArray) (w : World) (hs : s.size = 32) :
    Calls Tryd.prog 13 #[.string s] w fun e w' => e = .returned (.agg (bcells (clampL s.data.toList))) ∧ Below w.heap.size w w' := by
  obtain ⟨hz, hi⟩ := zero_of_info infoS
  have hl : s.data.toList.length = 32 := by rw [← Lib.size_eq]; exact hs
  have HG0 := blk_new2 w (.cells bzeros32 39) (.cells bzeros32 39)
  have HR0 := blk_old (o := .cells bzeros32 39) (blk_new w (.cells bzeros32 39))
  have hb0 := below_new2 w (.cells bzeros32 39) (.cells bzeros32 39)
  have hc := copy_scalar ((w.alloc (.cells bzeros32 39)).alloc (.cells bzeros32 39)) (w.heap.size + 1) s hs HG0
  have sl := arr_sliced_all 39 32 (w.heap.size + 1) (by kernel_rfl) (by kernel_rfl) (by kernel_rfl) (by omega)
  have H0 := setRow_heap _ (w.heap.size + 1) _ (bcells s.data.toList) _ _ HG0
  have R0 : (((w.alloc (.cells bzeros32 39)).alloc (.cells bzeros32 39)).setRow (w.heap.size + 1) (bcells s.data.toList)).heap[w.heap.size]? = some (.cells bzeros32 39) := by rw [setRow_other _ _ _ _ (by omega)]; exact HR0
  have b0 : Below w.heap.size w (((w.alloc (.cells bzeros32 39)).alloc (.cells bzeros32 39)).setRow (w.heap.size + 1) (bcells s.data.toList)) := below_setRow hb0 (by omega) _
  clear HG0 HR0 hb0 hi
  generalize World.setRow _ _ _ = V1 at *
  have hcl : Hid (bcells (((s.data.toList.set 0 (s.data.toList.getD 0 0 &&& 248)).set 31 (s.data.toList.getD 31 0 &&& 127)).set 31 (s.data.toList.getD 31 0 &&& 127 ||| 64)) = bcells (clampL s.data.toList)) := Lib.hid (by rw [List.set_set]; rfl)
  have HKL : Hid ((clampL s.data.toList).length = 32) := Lib.hid (by rw [clampL_length, hl])
  generalize s.data.toList = l at *
  have e31 : ∀ x, (l.set 0 x).getD 31 0 = l.getD 31 0 := fun x => by rw [List.getD_eq_getElem?_getD, List.getElem?_set_ne (by decide), List.getD_eq_getElem?_getD]
  have e32 : ∀ x y, ((l.set 0 x).set 31 y).getD 31 0 = y := fun x y => by rw [List.getD_eq_getElem?_getD, List.getElem?_set_self (by rw [List.length_set, hl]; decide)]; rfl
  have c0 := bcell_at H0 0 (by rw [hl]; decide)
  have f0 := frozen_of_row V1 (w.heap.size + 1) 0 _ _ H0
  have H1 := bheap_set H0 0 (l.getD 0 0 &&& 248)
  have c1 := bcell_at H1 31 (by rw [List.length_set, hl]; decide)
  have f1 := frozen_of_row _ (w.heap.size + 1) 31 _ _ H1
  rw [e31] at c1
  have H2 := bheap_set H1 31 (l.getD 31 0 &&& 127)
  have c2 := bcell_at H2 31 (by rw [List.length_set, List.length_set, hl]; decide)
  have f2 := frozen_of_row _ (w.heap.size + 1) 31 _ _ H2
  rw [e32] at c2
  have H3 := bheap_set H2 31 (l.getD 31 0 &&& 127 ||| 64)
  rw [hcl.out] at H3
  have a0 := not_low (l.getD 0 0)
  have a1 := not_top (l.getD 31 0)
  have a2 := or_low64 (l.getD 31 0 &&& 127)
  have r1 := (heap_setCell_other V1 ⟨w.heap.size + 1, 0, none⟩ w.heap.size (.int .u8 ((l.getD 0 0 &&& 248).toNat : Int)) (by simp)).trans R0
  have r2 := (heap_setCell_other _ ⟨w.heap.size + 1, 31, none⟩ w.heap.size (.int .u8 ((l.getD 31 0 &&& 127).toNat : Int)) (by simp)).trans r1
  have r3 := (heap_setCell_other _ ⟨w.heap.size + 1, 31, none⟩ w.heap.size (.int .u8 ((l.getD 31 0 &&& 127 ||| 64).toNat : Int)) (by simp)).trans r2
  have b3 := ((b0.setCell (p := ⟨w.heap.size + 1, 0, none⟩) (by simp) (.int .u8 ((l.getD 0 0 &&& 248).toNat : Int))).setCell (p := ⟨w.heap.size + 1, 31, none⟩) (by simp) (.int .u8 ((l.getD 31 0 &&& 127).toNat : Int))).setCell (p := ⟨w.heap.size + 1, 31, none⟩) (by simp) (.int .u8 ((l.getD 31 0 &&& 127 ||| 64).toNat : Int))
  have HK := Lib.hid H3; have HR := Lib.hid r3
  clear H1 H2 H3 H0 R0 r1 r2 r3 b0 e31 e32 hcl hl hs
  generalize (l.getD 0 0 &&& 248).toNat = v0 at *
  generalize (l.getD 31 0 &&& 127 ||| 64).toNat = v1 at *
  generalize (l.getD 31 0 &&& 127).toNat = v2 at *
  generalize (l.getD 31 0).toNat = v3 at *
  generalize (l.getD 0 0).toNat = v4 at *
  generalize clampL l = ks at *
  have Ik := Lib.hid (sizeS ks HKL.out); have Zk := Lib.hid (zerosS_size ks HKL.out); have Ok := Lib.hid (arr_one ks)
  go_enter Tryd.func13, Tryd.ntmps13
  go_wp2_with (first
    | (with_reducible refine wpList_load_row rfl 39 _ rfl (w.heap.size + 1) rfl 39 _ (0, 0) _ HK.out Tryd.underlying39 rfl Ik.out ?_)
    | (with_reducible refine wpList_store_row rfl 39 _ _ rfl w.heap.size (bcells ks) rfl rfl 39 _ HR.out Ik.out Zk.out Ok.out ?_))
  exact bodyPost_ret (v := .agg (bcells ks)) (results_cell_row (by rfl) _ _ w.heap.size 39 _ (0, 0) _ rfl (setRow_heap _ _ _ _ _ _ HR.out) Tryd.underlying39 rfl Ik.out) rfl ⟨rfl, below_setRow b3 (Nat.le_refl _) _⟩

set_option maxHeartbeats 2000000 in
theorem numberOf_any (p : ByteArray) (w : World) (hp : p.size = 32) :
    Calls Tryd.prog 14 #[.string p] w fun e w' => e = .returned (.agg (uc (limN 4 (pubF p.data.toList)))) ∧ Below w.heap.size w w' := by
  obtain ⟨hz, hi⟩ := zero_of_info infoF
  have hl : p.data.toList.length = 32 := by rw [← Lib.size_eq]; exact hp
  have HR0 := blk_new w (.cells zeros4 36)
  have hb0 := below_new w (.cells zeros4 36)
  have hsz : (w.alloc (.cells zeros4 36)).heap.size = w.heap.size + 1 := by simp
  obtain ⟨cap, hcv, hown, hbo⟩ := conv_bytes p (w.alloc (.cells zeros4 36))
  rw [hsz] at hcv hown hbo
  rw [hp] at hcv
  have HR1 := blk_below hbo (by omega) HR0
  have hb1 : Below w.heap.size w _ := hb0.trans (hbo.mono (by omega))
  clear hbo hb0 HR0 hsz hi
  have HOF := Lib.hid (fun W => of_any (⟨(maskL p.data.toList).toArray⟩ : ByteArray) W (by show (maskL p.data.toList).toArray.size = 32; simp [maskL_length, hl]))
  have HOF : Hid (∀ W, Calls Tryd.prog 30 #[.string (⟨(maskL p.data.toList).toArray⟩ : ByteArray)] W fun e w' => e = .returned (.tuple #[.agg (uc (limN 4 (pubF p.data.toList))), .int .i64 0]) ∧ Below W.heap.size W w') := HOF
  generalize hU : pubF p.data.toList = u at *
  have HU := Lib.hid hU
  clear hU
  generalize Lib.bytesWorld _ _ _ = V1 at *
  have hml : Hid (p.data.toList.set 31 (p.data.toList.getD 31 0 &&& 127) = maskL p.data.toList) := Lib.hid rfl
  have hkl : (maskL p.data.toList).length = 32 := by rw [maskL_length, hl]
  generalize p.data.toList = l at *
  obtain ⟨c0, f0⟩ := own_byte hown 31 (by rw [hl]; decide)
  have hown1 := own_byte_put hown 31 (by rw [hl]; decide) (l.getD 31 0 &&& 127)
  rw [hml.out] at hown1
  have ht := conv_text_own hown1 hkl cap
  have a0 := not_top (l.getD 31 0)
  have HR := Lib.hid ((heap_setCell_other V1 ⟨w.heap.size + 1, 31, none⟩ w.heap.size (.int .u8 ((l.getD 31 0 &&& 127).toNat : Int)) (by simp)).trans HR1)
  have hb2 := hb1.setCell (p := ⟨w.heap.size + 1, 31, none⟩) (by simp) (.int .u8 ((l.getD 31 0 &&& 127).toNat : Int))
  clear hown hown1 hml HR1 hb1 hkl hl
  generalize (l.getD 31 0 &&& 127).toNat = v1 at *
  generalize (l.getD 31 0).toNat = v2 at *
  generalize (⟨(maskL l).toArray⟩ : ByteArray) = tx at *
  have Iu := Lib.hid (sizeF' u); have Zu := Lib.hid (zerosF_size u); have Ou := Lib.hid (uc_one (limN 4 u))
  have hp32 : (31 : Int) < (32 : Int) := by omega
  go_enter Tryd.func14, Tryd.ntmps14
  go_wp2_with fail
  clear ht c0 f0 a0 hcv
  generalize (World.setCell _ _ _) = W0 at *
  refine (HOF.out W0).mono ?_
  rintro e W1 ⟨rfl, bk⟩
  have HR1 := Lib.hid (blk_below bk (blk_lt HR.out) HR.out)
  have hb3 := hb2.trans (bk.mono hb2.size)
  have hlt := blk_lt HR1.out
  have HN := Lib.hid (blk_new W1 (.cells zeros4 36))
  have HNN := Lib.hid (setRow_heap _ W1.heap.size _ (uc (limN 4 u)) _ _ HN.out)
  have HR2 : Hid (((W1.alloc (.cells zeros4 36)).setRow W1.heap.size (uc (limN 4 u))).heap[w.heap.size]? = some (.cells zeros4 36)) := Lib.hid (by rw [setRow_other _ _ _ _ (by omega)]; exact blk_old HR1.out)
  have hb4 : Below w.heap.size w ((W1.alloc (.cells zeros4 36)).setRow W1.heap.size (uc (limN 4 u))) := below_setRow (hb3.alloc (by omega) _) (by omega) _
  clear HOF HR HR1 hb2 hb3 bk
  go_wp2_with (first
    | (with_reducible refine wpList_store_row rfl 36 _ _ rfl W1.heap.size (uc (limN 4 u)) rfl rfl 36 _ HN.out Iu.out Zu.out Ou.out ?_)
    | (with_reducible refine wpList_load_row rfl 36 _ rfl W1.heap.size rfl 36 _ (0, 0) _ HNN.out Tryd.underlying36 rfl Iu.out ?_)
    | (with_reducible refine wpList_store_row rfl 36 _ _ rfl w.heap.size (uc (limN 4 u)) rfl rfl 36 _ HR2.out Iu.out Zu.out Ou.out ?_))
  exact bodyPost_ret (v := .agg (uc (limN 4 u))) (results_cell_row (by rfl) _ _ w.heap.size 36 _ (0, 0) _ rfl (setRow_heap _ _ _ _ _ _ HR2.out) Tryd.underlying36 rfl Iu.out) rfl ⟨rfl, below_setRow hb4 (Nat.le_refl _) _⟩
end Go.Proofs.YtnodllkfmdhhlaaDoor
