/- The program's xored: a text with the key's stream. -/
import Derived.Test.YtoejkiblampecaaDoorGcmEnc
import Derived.Test.YtoejkiblampecaaDoorMove
import Derived.Test.YtoejkiblampecaaDoorAesRkey
namespace Go.Proofs.YtoejkiblampecaaDoor
open Go.RowKit Go.Sort
set_option maxRecDepth 100000
set_option linter.unusedSimpArgs false
set_option linter.unusedVariables false

/-- The counter blocks while they are laid: so many of n. -/
def ctP (nonce : List UInt8) (n m : Nat) : List UInt8 := (List.range (16 * n)).map fun i => if i < 16 * m then (ctG nonce (2 + i / 16)).getD (i % 16) 0 else 0
theorem ctP_length (nonce : List UInt8) (n m : Nat) : (ctP nonce n m).length = 16 * n := by simp [ctP]
theorem ctP_zero (nonce : List UInt8) (n : Nat) : ctP nonce n 0 = List.replicate (16 * n) 0 := bytes_ext (ctP_length _ _ _) List.length_replicate fun i hi => by
  rw [ctP, range_getD _ _ _ hi, if_neg (by omega), List.getD_eq_getElem?_getD, List.getElem?_replicate, if_pos hi]; rfl
theorem ctP_succ (nonce : List UInt8) (n m : Nat) (h : m < n) (hn : nonce.length = 12) : putMany (ctP nonce n m) (m * 16) (ctG nonce (2 + m)) = ctP nonce n (m + 1) := by
  have hc := ctG_length nonce (2 + m) hn
  refine bytes_ext (by rw [putMany_length, ctP_length]) (ctP_length _ _ _) fun i hi => ?_
  rw [putMany_get _ _ _ _ (by rw [hc, ctP_length]; omega), hc]
  unfold ctP
  rw [range_getD _ _ _ hi, range_getD _ _ _ hi]
  by_cases h1 : m * 16 ≤ i ∧ i < m * 16 + 16
  · rw [if_pos h1, if_pos (by omega), show 2 + i / 16 = 2 + m by omega, show i - m * 16 = i % 16 by omega]
  · rw [if_neg h1]
    by_cases h2 : i < 16 * m
    · rw [if_pos h2, if_pos (by omega)]
    · rw [if_neg h2, if_neg (by omega)]
theorem ctP_blk (nonce : List UInt8) (n j : Nat) (h : j < n) (hn : nonce.length = 12) : (blkS (ctP nonce n n) j).data.toList = ctG nonce (2 + j) := by
  show subL (ctP nonce n n) (16 * j) 16 = _
  refine bytes_ext (n := 16) (subL_length _ _ _ (by rw [ctP_length]; omega)) (ctG_length _ _ hn) fun i hi => ?_
  rw [subL_getD _ _ _ _ hi, ctP, range_getD _ _ _ (by omega), if_pos (by omega), show 2 + (16 * j + i) / 16 = 2 + j by omega, show (16 * j + i) % 16 = i by omega]
/-- Data while the stream goes over it: so many bytes. -/
def xrP (key nonce data : List UInt8) (m : Nat) : List UInt8 := (List.range data.length).map fun i => if i < m then strF key nonce data i else data.getD i 0
theorem xrP_length (key nonce data : List UInt8) (m : Nat) : (xrP key nonce data m).length = data.length := by simp [xrP]
theorem xrP_zero (key nonce data : List UInt8) : xrP key nonce data 0 = data := bytes_ext (xrP_length _ _ _ _) rfl fun i hi => by rw [xrP, range_getD _ _ _ hi, if_neg (by omega)]
theorem xrP_full (key nonce data : List UInt8) : xrP key nonce data data.length = strG key nonce data := bytes_ext (xrP_length _ _ _ _) (strG_length _ _ _) fun i hi => by rw [xrP, range_getD _ _ _ hi, strG, range_getD _ _ _ hi, if_pos hi]
theorem xrP_at (key nonce data : List UInt8) (m : Nat) (h : m < data.length) : (xrP key nonce data m).getD m 0 = data.getD m 0 := by rw [xrP, range_getD _ _ _ h, if_neg (by omega)]
theorem xrP_succ (key nonce data : List UInt8) (m : Nat) (h : m < data.length) : (xrP key nonce data m).set m (strF key nonce data m) = xrP key nonce data (m + 1) := by
  refine bytes_ext (by rw [List.length_set, xrP_length]) (xrP_length _ _ _ _) fun i hi => ?_
  rw [set_getD _ _ _ _ (by rw [xrP_length]; exact h)]
  unfold xrP
  rw [range_getD _ _ _ hi, range_getD _ _ _ hi]
  by_cases e : i = m
  · subst e; rw [if_pos rfl, if_pos (by omega)]
  · rw [if_neg e]
    by_cases h2 : i < m
    · rw [if_pos h2, if_pos (by omega)]
    · rw [if_neg h2, if_neg (by omega)]
/-- The conversion of a string to bytes: where they lie. -/
theorem run_convert_string_bytes_at (s : ByteArray) (w : World) : ∃ cap, (convert 9 31 (.string s)).run Tryd.prog w = .ok (.slice (some ⟨w.heap.size, 0, none⟩) s.size cap) (Lib.bytesWorld w 5 s) ∧ OwnS (Lib.bytesWorld w 5 s) w.heap.size w.heap.size cap (Lib.byteCells s.data.toList) ∧ Below w.heap.size w (Lib.bytesWorld w 5 s) := by
  have hl : (Lib.byteCells s.data.toList).length = s.size := by rw [Lib.byteCells_length, ← Lib.size_eq]
  have hge := grownCap_ge w s.size 0 5
  have hsz : (Lib.bytesCells w 5 s).size = grownCap w s.size 0 5 := by
    simp only [Lib.bytesCells, Array.size_append, Array.size_map, Array.size_replicate]
    have : s.data.size = s.size := rfl
    omega
  have hnew := Lib.bytesWorld_at_new w 5 s
  refine ⟨_, Lib.run_convert_string_bytes w 9 31 5 s Tryd.underlying9 Tryd.underlying31 Tryd.underlying5, ⟨Nat.le_refl _, by omega, ?_, ?_⟩, ?_⟩
  · intro j u hj
    have hlt : j < s.size := by rw [← hl]; exact (List.getElem?_eq_some_iff.1 hj).1
    rw [Lib.bytesWorld_cell w 5 s j hlt]
    have hlt' : j < s.data.toList.length := by rw [← Lib.size_eq]; exact hlt
    simp only [Lib.byteCells, List.getElem?_map, List.getElem?_eq_getElem hlt', Option.map_some] at hj
    rw [List.getD_eq_getElem?_getD, List.getElem?_eq_getElem hlt']
    exact hj
  · intro j hj
    constructor
    · rw [cell_of_row _ _ _ _ _ _ hnew]
      have : j < (Lib.bytesCells w 5 s).size := by omega
      simp [this]
    · have : j < (Lib.bytesCells w 5 s).size := by omega
      simp [World.frozen?, hnew]
      omega
  · exact ⟨rfl, rfl, rfl, by rw [Lib.bytesWorld_size]; omega, fun k hk => Lib.bytesWorld_at_old w 5 s k hk⟩
theorem OwnS.below2 {W W' : World} {base g cap : Nat} {xs : List Value} (h : OwnS W base g cap xs) (hb : Below W.heap.size W W') : OwnS W' base g cap xs := by
  refine ⟨h.base, h.le, fun j u hj => ?_, fun j hj => ?_⟩
  · have := h.cells j u hj
    exact (hb.cell (block_lt_of_cell this)).trans this
  · obtain ⟨u, hu⟩ := Option.isSome_iff_exists.1 (h.room j hj).1
    have hlt := block_lt_of_cell hu
    rw [hb.cell (p := ⟨g, j, none⟩) hlt, hb.frozen (p := ⟨g, j, none⟩) hlt]
    exact h.room j hj
theorem binfo_block : (Tryd.prog.info? 35).map (fun i => (i.zero, i.size, i.bytes)) = some (some (.agg gzeros), 16, 16) := by kernel_rfl
theorem made_blocks (n : Nat) : madeCells (Value.agg gzeros).cells (n * 16) = bcells (List.replicate (16 * n) 0) := by
  apply Array.ext_getElem?
  intro i
  have hz : (Value.agg gzeros).cells = gzeros := rfl
  have hs : gzeros.size = 16 := bcells_size _
  by_cases h : i < 16 * n
  · have h1 : i < n * 16 := by omega
    have h2 : i % 16 < 16 := Nat.mod_lt _ (by decide)
    have e : gzeros[i % 16]? = some (.int .u8 0) := by
      rw [gzeros, bcells_get _ _ 0 (by rw [zeroB, List.getElem?_replicate, if_pos h2])]; rfl
    have e2 : (bcells (List.replicate (16 * n) 0))[i]? = some (.int .u8 0) := by
      rw [bcells_get _ _ 0 (by rw [List.getElem?_replicate, if_pos h])]; rfl
    have e3 : gzeros[i % 16]! = .int .u8 0 := by rw [getElem!_def, e]
    rw [e2]
    simp [madeCells, hz, hs, h1, e3]
  · have h1 : ¬ i < n * 16 := by omega
    rw [Array.getElem?_eq_none (by rw [size_madeCells]; omega), Array.getElem?_eq_none (by rw [bcells_size, List.length_replicate]; omega)]

set_option maxHeartbeats 4000000 in
theorem xored_any (key nonce text : ByteArray) (w : World) (hk : key.size = 16) (hn : nonce.size = 12) (ht : text.size ≤ 15000) (hT : TabQ w) :
    Calls Tryd.prog 21 #[.string key, .string nonce, .string text] w fun e w' => e = .returned (.string ⟨(strG key.data.toList nonce.data.toList text.data.toList).toArray⟩) ∧ Below w.heap.size w w' := by
  obtain ⟨i0, hi0, hz0, hz1, hz2⟩ := info_parts binfo_block
  have hnl : nonce.data.toList.length = 12 := by rw [← Lib.size_eq]; exact hn
  obtain ⟨n, hnn⟩ : ∃ n, n = (text.size + 15) / 16 := ⟨_, rfl⟩
  have hn1 : n ≤ 1000 := by omega
  have hmk : ∀ W : World, (Instr.makeSlice 56 (.int .i64 (n : Int)) (.int .i64 (n : Int))).run Tryd.prog W = .ok (.slice (some ⟨W.heap.size, 0, none⟩) n n) (W.alloc (.cells (bcells (ctP nonce.data.toList n 0)) 35)) := fun W => by
    have h := run_makeSlice W 56 35 i0 (.agg gzeros) Tryd.underlying56 hi0 hz0 .i64 .i64 (n : Int) (n : Int) (by omega) (by omega) (by rw [hz1]; omega) (by rw [hz2]; omega) (by omega)
    rw [hz1, Int.toNat_natCast, made_blocks] at h
    rw [ctP_zero]
    exact h
  have q1 : ((text.size : Int) + 16 - 1) / 16 = (n : Int) := by omega
  have q2 : ((text.size : Int) + 15) / 16 = (n : Int) := by omega
  have q3 : IntKind.i64.wrap ((text.size : Int) + 16) = (text.size : Int) + 16 := IntWalk.i64_in _ (by omega)
  have q4 : IntKind.i64.wrap ((text.size : Int) + 16 - 1) = (text.size : Int) + 16 - 1 := IntWalk.i64_in _ (by omega)
  have q5 : ((text.size : Int) + 16 - 1).tdiv 16 = (n : Int) := by rw [Int.tdiv_eq_ediv_of_nonneg (by omega)]; exact q1
  have q6 : IntKind.i64.wrap (n : Int) = (n : Int) := IntWalk.i64_in _ (by omega)
  have HT := Lib.hid hT
  have HNL := Lib.hid hnl; have HNZ := Lib.hid hn; have HKZ := Lib.hid hk
  have HNN := Lib.hid hnn
  have HX0 := Lib.hid (blk_new w (.cells (bcells (ctP nonce.data.toList n 0)) 35))
  have hb0 := below_new w (.cells (bcells (ctP nonce.data.toList n 0)) 35)
  clear hi0 hz0 hz1 hz2 hT hnl hn hk hnn
  go_enter Tryd.func21, Tryd.ntmps21
  go_wp2_with fail
  clear hmk q1 q2 q3 q4 q5 q6
  generalize (w.alloc _) = W0 at *
  go_loopw [8, 20] (fun _ iv wr => ∃ m : Nat, m ≤ n ∧ iv = .int .i64 (m : Int) ∧ wr.heap[w.heap.size]? = some (.cells (bcells (ctP nonce.data.toList n m)) 35) ∧ Below w.heap.size w wr) (fun _ iv _ => n - (intOf iv).toNat)
  case atStart => exact ⟨0, by omega, rfl, HX0.out, hb0⟩
  case round =>
    clear HX0 hb0
    obtain ⟨m, hm, rfl, hx, hb⟩ := hrel
    have HX := Lib.hid hx
    clear hx
    by_cases hlt : m < n
    · have hd : decide ((m : Int) < (n : Int)) = true := by simp; omega
      have e1 : (m : Int) % 4294967296 = (m : Int) := by omega
      have e2 : (2 + (m : Int)) % 4294967296 = ((2 + m : Nat) : Int) := by omega
      have e3 : IntKind.u32.wrap (2 + (m : Int)) = ((2 + m : Nat) : Int) := by rw [IntKind.wrap_u32']; exact e2
      have HC := Lib.hid (fun W => counterBlock_any nonce (2 + m) W (by omega) HNZ.out)
      have HSet := Lib.hid (ctP_succ nonce.data.toList n m hlt HNL.out)
      have hcl := ctG_length nonce.data.toList (2 + m) HNL.out
      have HCL := Lib.hid hcl
      have HI16 := Lib.hid (show (Tryd.prog.info? 35).map (·.size) = some (ctG nonce.data.toList (2 + m)).length from by rw [hcl]; exact (zero_of_info infoB).2)
      have HLe := Lib.hid (show m * 16 + (ctG nonce.data.toList (2 + m)).length ≤ (ctP nonce.data.toList n m).length from by rw [hcl, ctP_length]; omega)
      clear hcl
      generalize ctG nonce.data.toList (2 + m) = ct at *
      go_wp2_with fail
      refine (HC.out wr).mono ?_
      rintro e W1 ⟨rfl, hb1⟩
      have HX1 := Lib.hid (blk_below hb1 (blk_lt HX.out) HX.out)
      have hb2 := hb.trans (hb1.mono hb.size)
      have HX2 := Lib.hid (setRow_heap W1 w.heap.size _ (bcells (putMany (ctP nonce.data.toList n m) (m * 16) ct)) _ _ HX1.out)
      rw [HSet.out] at HX2
      have hb3 : Below w.heap.size w (W1.setRow w.heap.size (bcells (putMany (ctP nonce.data.toList n m) (m * 16) ct))) := below_setRow hb2 (Nat.le_refl _) _
      rw [HSet.out] at hb3
      clear hb1 HC HX hb2 hb
      go_wp2_with (with_reducible refine wpList_store_sub rfl 35 _ _ rfl w.heap.size (m * 16) (ctP nonce.data.toList n m) ct rfl rfl 35 HX1.out HI16.out HLe.out ?_)
      rw [HSet.out]
      go_roundw
      case rel => exact ⟨m + 1, by omega, by go_num, HX2.out, hb3⟩
      case measure => simp [intOf]; omega
    · have hd : decide ((m : Int) < (n : Int)) = false := by simp; omega
      obtain rfl : m = n := by omega
      have HE := Lib.hid (encrypteds_any key (ctP nonce.data.toList m m) w.heap.size m m 35 _ wr HKZ.out hn1 (ctP_length _ _ _) HX.out (HT.out.step hb))
      go_wp2_with fail
      refine HE.out.mono ?_
      rintro e W2 ⟨⟨G, rfl, hG⟩, hb2⟩
      have HG := Lib.hid hG
      have hb3 := hb.trans (hb2.mono hb.size)
      clear hG hb2 HE HX hb
      obtain ⟨cap, hcv, hown, hbo⟩ := run_convert_string_bytes_at text W2
      have hb4 := hb3.trans (hbo.mono hb3.size)
      have HG2 := Lib.hid (HG.out.step hbo)
      have hcapi : cap = cap := rfl
      have hGlt : 0 < m → G < W2.heap.size := fun hp => textsAt_lt HG.out hp G 0 rfl
      have hsz2 := hb3.size
      have hsz3 : W2.heap.size < (Lib.bytesWorld W2 5 text).heap.size := by rw [Lib.bytesWorld_size]; omega
      generalize Lib.bytesWorld W2 5 text = W3 at *
      go_wp2_with fail
      have HO0 := Lib.hid hown
      have hSG : 0 < text.size → G < W2.heap.size := fun hp => hGlt (by have := HNN.out; omega)
      have HFs := Lib.hid (fun (j : Nat) (hj : j < text.size) => show (encS key (blkS (ctP nonce.data.toList m m) (j / 16))).size = 16 ∧ text.data.toList.getD j 0 ^^^ (encS key (blkS (ctP nonce.data.toList m m) (j / 16))).data.toList.getD (j % 16) 0 = strF key.data.toList nonce.data.toList text.data.toList j from
        ⟨encS_size _ _, by rw [strF, ← ctP_blk nonce.data.toList m (j / 16) (by have := HNN.out; omega) HNL.out]; rfl⟩)
      have HTL := Lib.hid (show text.data.toList.length = text.size from (Lib.size_eq text).symm)
      clear hcv hown hcapi hGlt
      generalize W2.heap.size = S at *
      generalize hdt : text.data.toList = dt at *
      have HDT := Lib.hid hdt
      clear hdt
      go_loopw [11, 39] (fun _ iv wr => ∃ j : Nat, j ≤ text.size ∧ iv = .int .i64 (j : Int) ∧ OwnS wr S S cap (Lib.byteCells (xrP key.data.toList nonce.data.toList dt j)) ∧ Below S W3 wr) (fun _ iv _ => text.size - (intOf iv).toNat)
      case atStart => exact ⟨0, by omega, rfl, by rw [xrP_zero]; exact HO0.out, Below.refl _ _⟩
      case round =>
        clear HO0
        obtain ⟨j, hj, rfl, hown, hbs⟩ := hrel
        have HO := Lib.hid hown
        clear hown
        by_cases hlj : j < text.size
        · have hd2 : decide ((j : Int) < (text.size : Int)) = true := by simp; omega
          have hGS := hSG (by omega)
          obtain ⟨hes, hef⟩ := HFs.out j hlj
          have HES := Lib.hid hes; have HEF := Lib.hid hef
          clear hes hef
          have hxl := xrP_length key.data.toList nonce.data.toList dt j
          have c1 : wr.cell? ⟨S, j, none⟩ = some (.int .u8 ((dt.getD j 0).toNat : Int)) := by
            rw [← xrP_at key.data.toList nonce.data.toList dt j (by rw [HTL.out]; exact hlj)]
            refine HO.out.cells j _ ?_
            have hj2 : j < (xrP key.data.toList nonce.data.toList dt j).length := by rw [hxl, HTL.out]; exact hlj
            simp [Lib.byteCells, List.getD_eq_getElem?_getD, hj2]
          have hjl : j < (Lib.byteCells (xrP key.data.toList nonce.data.toList dt j)).length := by rw [Lib.byteCells_length, hxl, HTL.out]; exact hlj
          have HCx := Lib.hid (show (Lib.byteCells (xrP key.data.toList nonce.data.toList dt j))[j]? = some (.int .u8 ((dt.getD j 0).toNat : Int)) from by
            rw [← xrP_at key.data.toList nonce.data.toList dt j (by rw [HTL.out]; exact hlj)]
            have hj2 : j < (xrP key.data.toList nonce.data.toList dt j).length := by rw [hxl, HTL.out]; exact hlj
            simp [Lib.byteCells, List.getD_eq_getElem?_getD, hj2])
          have HXs := Lib.hid (xrP_succ key.data.toList nonce.data.toList dt j (by rw [HTL.out]; exact hlj))
          have hgt := (textsAt_keep HG2.out hbs (fun g off h => by cases h; exact hGS)) (j / 16) (by have := HNN.out; omega)
          obtain ⟨g', off', hgo, c2⟩ := hgt
          cases hgo
          rw [Nat.zero_add] at c2
          replace c2 : wr.cell? ⟨G, j / 16, none⟩ = some (.string (encS key (blkS (ctP nonce.data.toList m m) (j / 16)))) := c2
          have ix := index_text (encS key (blkS (ctP nonce.data.toList m m) (j / 16))) (j % 16) (by rw [HES.out]; exact Nat.mod_lt _ (by omega))
          have HX := Lib.hid (au8x (dt.getD j 0) ((encS key (blkS (ctP nonce.data.toList m m) (j / 16))).data.toList.getD (j % 16) 0))
          rw [HEF.out] at HX
          have hqm : j / 16 < m := by have := HNN.out; omega
          clear hxl HEF
          generalize encS key (blkS (ctP nonce.data.toList m m) (j / 16)) = es at *
          generalize es.data.toList.getD (j % 16) 0 = y at *
          generalize dt.getD j 0 = x at *
          have e1 : (j : Int) / 16 = ((j / 16 : Nat) : Int) := by omega
          have e2 : (j : Int) % 16 = ((j % 16 : Nat) : Int) := by omega
          have e3 : (j : Int).tdiv 16 = ((j / 16 : Nat) : Int) := by rw [Int.tdiv_eq_ediv_of_nonneg (by omega)]; omega
          have e4 : (j : Int).tmod 16 = ((j % 16 : Nat) : Int) := by rw [Int.tmod_eq_emod_of_nonneg (by omega)]; omega
          have b1 : ((j / 16 : Nat) : Int) < (m : Int) := by omega
          generalize j / 16 = jq at *
          generalize j % 16 = jr at *
          go_wp2_with fail
          have q1 := cell_regrown c1
          have q2 := cell_regrown c2
          refine wp_region_reads_tail 14 (by kernel_rfl) (by kernel_rfl) ?_
          simp only [List.take_succ_cons, List.take_zero, List.drop_succ_cons, List.drop_zero]
          repeat (first | go_big_quiet_step (fail) | quiet_step (fail))
          refine wpQuiet_nil ?_
          intro Y hY
          have HOy := Lib.hid (HO.out.below2 hY)
          have cy := HOy.out.cells j (.int .u8 (x.toNat : Int)) HCx.out
          have fy := (HOy.out.room j (Nat.lt_of_lt_of_le hjl HOy.out.le)).2
          have hby := hbs.trans (hY.mono (by have := hbs.size; omega))
          have HPut := Lib.hid (HOy.out.put j hjl (.int .u8 ((strF key.data.toList nonce.data.toList dt j).toNat : Int)))
          rw [Lib.byteCells, ← List.map_set (f := fun b : UInt8 => Value.int .u8 (b.toNat : Int)), HXs.out] at HPut
          clear HO q1 q2 c1 c2 hY ix hbs
          rw [HX.out]
          go_wp2_with fail
          go_roundw
          case rel => exact ⟨j + 1, by omega, by go_num, HPut.out, hby.setCell (by simp) _⟩
          case measure => simp [intOf]; omega
        · have hd2 : decide ((j : Int) < (text.size : Int)) = false := by simp; omega
          obtain rfl : j = text.size := by omega
          have hrow : xrP key.data.toList nonce.data.toList dt text.size = strG key.data.toList nonce.data.toList dt := by rw [← HTL.out]; exact xrP_full _ _ _
          have hbf := hb4.trans (hbs.mono (by omega))
          have hsl := strG_length key.data.toList nonce.data.toList dt
          rw [HTL.out] at hsl
          rw [hrow] at HO
          generalize hro : strG key.data.toList nonce.data.toList dt = row at *
          have hcv := run_string_at wr S 0 cap text.size row hsl (fun j x hx => by
            rw [Nat.zero_add]
            exact HO.out.cells j _ (by simp [Lib.byteCells, hx]))
          clear HO hrow hsl hb4
          go_wp2_with fail
          go_ret
          exact ⟨by rw [HDT.out, hro]; rfl, hbf⟩
end Go.Proofs.YtoejkiblampecaaDoor
