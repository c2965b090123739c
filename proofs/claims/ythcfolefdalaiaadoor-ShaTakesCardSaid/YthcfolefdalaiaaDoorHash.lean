/- A hash in memory: New, Write and Sum, for digests of 32 and of 64 bytes. What has been written has at most 2^39 bytes. -/
import Derived.Test.YthcfolefdalaiaaDoorTabs
namespace Go.Proofs.YthcfolefdalaiaaDoor
open Go.RowKit Go.Sort
set_option maxRecDepth 100000
set_option linter.unusedSimpArgs false
set_option linter.unusedVariables false

/-- Block b holds a hash for digests of 32 bytes, to which l has been written. -/
def pre32 : List Value := [.int .i64 32]
def post32 : List Value := [.int .u64 0, .int .u64 0, .int .u64 0, .int .u64 0, .int .u64 0, .int .u64 0, .int .u64 0, .int .u64 0, .string ⟨#[]⟩, .int .u64 0]
structure Hash32 (W : World) (K H : Nat → Int) (b : Nat) (l : List UInt8) : Prop where
  ex : ∃ rest : ByteArray, rest.data.toList = tail64 l ∧ W.heap[b]? = some (.cells (rc32 pre32 post32 (full32 (fun t => K t / 4294967296) (init32 H) l) rest (l.length : Int)) 67)
theorem Hash32.size {W : World} {K H : Nat → Int} {b : Nat} {l : List UInt8} (h : Hash32 W K H b l) : W.cell? ⟨b, 0, none⟩ = some (.int .i64 32) := by
  obtain ⟨rest, _, hr⟩ := h.ex
  rw [cell_of_row W _ _ _ _ _ hr]
  rfl
theorem Hash32.lt {W : World} {K H : Nat → Int} {b : Nat} {l : List UInt8} (h : Hash32 W K H b l) : b < W.heap.size := by
  obtain ⟨rest, _, hr⟩ := h.ex
  exact blk_lt hr
theorem Hash32.kept {W W' : World} {K H : Nat → Int} {b : Nat} {l : List UInt8} (h : Hash32 W K H b l) (e : W'.heap[b]? = W.heap[b]?) : Hash32 W' K H b l := by
  obtain ⟨rest, h1, hr⟩ := h.ex
  exact ⟨rest, h1, e.trans hr⟩

set_option maxHeartbeats 1000000 in
set_option maxRecDepth 100000 in
theorem hashWrite32 (K H : Nat → Int) (b : Nat) (l : List UInt8) (data : ByteArray) (w : World) (hh : Hash32 w K H b l) (hK : TabK w K) (hb : b ≠ 1) (hl : l.length ≤ 549755813888) (hd : data.size ≤ 549755813888) :
    Calls Tryd.prog 19 #[.pointer (some ⟨b, 0, none⟩), .string data] w fun e w' => e = .returned (.int .i64 0) ∧ Hash32 w' K H b (l ++ data.data.toList) ∧ But b w w' := by
  have c0 := hh.size
  have hlt := hh.lt
  go_enter Tryd.func19, Tryd.ntmps19
  go_wp2_with fail
  refine wp_region_reads_tail 5 (by kernel_rfl) (by kernel_rfl) ?_
  simp only [List.take_succ_cons, List.take_zero, List.drop_succ_cons, List.drop_zero]
  repeat (first | go_big_quiet_step ((go_at_call 38; exact Calls.regrown_of (parameters256_any _))) | quiet_step ((go_at_call 38; exact Calls.regrown_of (parameters256_any _))))
  refine wpQuiet_nil ?_
  intro W1 hb1
  obtain ⟨rest, hrest, hrun⟩ := hh.ex
  have hrs : rest.size < 64 := by rw [Lib.size_eq, hrest]; exact tail64_length _
  go_wp2_with fail
  refine (write32_any K b 67 pre32 post32 (full32 (fun t => K t / 4294967296) (init32 H) l) rest data (l.length : Int) W1 (blk_below hb1 hlt hrun) (hK.below hb1 hK.lt) hb hrs (by omega) (by omega) (by omega)).mono ?_
  rintro e W2 ⟨rfl, rest2, hrest2, hrun2, hbut2⟩
  have hfin : Hash32 W2 K H b (l ++ data.data.toList) := by
    have e1 := full32_append (fun t => K t / 4294967296) (init32 H) l data.data.toList
    rw [hrest, e1.1] at hrun2
    rw [hrest, e1.2] at hrest2
    refine ⟨rest2, hrest2, ?_⟩
    rw [hrun2, List.length_append, ← Lib.size_eq]
    simp
  have hbut : But b w W2 := (But.of_below hb1).trans hbut2
  clear hrest2 hrun2 hbut2 hrest hrun hh hb1 c0
  go_wp2_with fail
  go_ret
  exact ⟨rfl, hfin, hbut⟩

/-- The digest of what lies in ten cells, written out. -/
theorem sum32_lit (K : Nat → Int) (st : W8) (rest : ByteArray) (n : Nat) (w : World) (hK : TabK w K) (hr : rest.size < 64) (hn : n ≤ 1099511627776) :
    Calls Tryd.prog 41 #[.agg #[.int .u32 st.a, .int .u32 st.b, .int .u32 st.c, .int .u32 st.d, .int .u32 st.e, .int .u32 st.f, .int .u32 st.g, .int .u32 st.h, .string rest, .int .u64 (n : Int)], prm256] w fun e w' => e = .returned (.string ⟨(dig32 (full32 (fun t => K t / 4294967296) st (rest.data.toList ++ padL 64 8 n))).toArray⟩) ∧ Below w.heap.size w w' :=
  sum32_any K st rest n w hK hr hn

set_option maxHeartbeats 1000000 in
set_option maxRecDepth 100000 in
theorem hashSum32 (K H : Nat → Int) (b : Nat) (l : List UInt8) (w : World) (hh : Hash32 w K H b l) (hK : TabK w K) (hl : l.length ≤ 1099511627776) :
    Calls Tryd.prog 18 #[.pointer (some ⟨b, 0, none⟩)] w fun e w' => e = .returned (.string ⟨(sha256L K H l).toArray⟩) ∧ Below w.heap.size w w' := by
  have c0 := hh.size
  have hlt := hh.lt
  obtain ⟨rest, hrest, hrun⟩ := hh.ex
  have hrs : rest.size < 64 := by rw [Lib.size_eq, hrest]; exact tail64_length _
  have HE := Lib.hid (show sha256L K H l = dig32 (full32 (fun t => K t / 4294967296) (full32 (fun t => K t / 4294967296) (init32 H) l) (rest.data.toList ++ padL 64 8 l.length)) from by
    rw [hrest, (full32_append _ _ _ _).1, sha256L])
  generalize full32 (fun t => K t / 4294967296) (init32 H) l = st at *
  have m : ∀ j, j < 8 → w.cell? ⟨b, 1 + j, none⟩ = some (.int .u32 (st.at j)) := fun j hj => by rw [cell_of_row w _ _ _ _ _ hrun]; exact rc32_state pre32 post32 st rest _ j hj
  have m0 := cell_regrown (m 0 (by omega)); have m1 := cell_regrown (m 1 (by omega)); have m2 := cell_regrown (m 2 (by omega)); have m3 := cell_regrown (m 3 (by omega)); have m4 := cell_regrown (m 4 (by omega)); have m5 := cell_regrown (m 5 (by omega)); have m6 := cell_regrown (m 6 (by omega)); have m7 := cell_regrown (m 7 (by omega))
  have m8 := cell_regrown (show w.cell? ⟨b, 1 + 8, none⟩ = some (.string rest) from by rw [cell_of_row w _ _ _ _ _ hrun]; exact rc32_rest pre32 post32 st rest _)
  have m9 := cell_regrown (show w.cell? ⟨b, 1 + 9, none⟩ = some (.int .u64 (l.length : Int)) from by rw [cell_of_row w _ _ _ _ _ hrun]; exact rc32_len pre32 post32 st rest _)
  simp only [W8.at, Nat.reduceAdd] at m0 m1 m2 m3 m4 m5 m6 m7 m8 m9
  clear m hrun hrest hh
  go_enter Tryd.func18, Tryd.ntmps18
  go_wp2_with fail
  refine wp_region_reads (by kernel_rfl) (by kernel_rfl) ?_
  repeat (first | go_big_quiet_step (first | (go_at_call 38; exact Calls.regrown_of (parameters256_any _)) | (go_at_call 41; exact Calls.regrown_of (sum32_lit K st rest l.length _ (hK.below (below_regrown _ _ _) hK.lt) hrs hl))) | quiet_step (first | (go_at_call 38; exact Calls.regrown_of (parameters256_any _)) | (go_at_call 41; exact Calls.regrown_of (sum32_lit K st rest l.length _ (hK.below (below_regrown _ _ _) hK.lt) hrs hl))))
  refine wpQuiet_nil ?_
  intro W1 hb1
  clear m0 m1 m2 m3 m4 m5 m6 m7 m8 m9 c0
  go_wp2_with fail
  go_ret
  exact ⟨by rw [HE.out]; rfl, hb1⟩

theorem built32 (H : Nat → Int) : Tryd.prog.built 67 [(0, .int .i64 32), (1, .agg (rc32 [] [] (init32 H) ⟨#[]⟩ 0))] = some (rc32 pre32 post32 (init32 H) ⟨#[]⟩ 0) := by kernel_rfl

set_option maxHeartbeats 1000000 in
theorem new32 (K H : Nat → Int) (w : World) (hH : TabH w H) :
    Calls Tryd.prog 16 #[.int .i64 32] w fun e w' => ∃ b, e = .returned (.tuple #[.pointer (some ⟨b, 0, none⟩), .int .i64 0]) ∧ w.heap.size ≤ b ∧ Hash32 w' K H b [] ∧ Below w.heap.size w w' := by
  go_enter Tryd.func16, Tryd.ntmps16
  go_wp2_with fail
  refine (parameters256_any _).mono ?_
  rintro e W1 ⟨rfl, hb1⟩
  go_wp2_with fail
  refine (start32_any H _ (hH.below hb1 hH.lt)).mono ?_
  rintro e W2 ⟨rfl, hb2⟩
  have HB := Lib.hid (built32 H)
  have hfin : Hash32 (W2.alloc (.cells (rc32 pre32 post32 (init32 H) ⟨#[]⟩ 0) 67)) K H W2.heap.size [] := ⟨⟨#[]⟩, rfl, blk_new W2 _⟩
  have hB2 : Below w.heap.size w (W2.alloc (.cells (rc32 pre32 post32 (init32 H) ⟨#[]⟩ 0) 67)) := (hb1.trans (hb2.mono hb1.size)).alloc (Nat.le_trans hb1.size hb2.size) _
  have hsz : w.heap.size ≤ W2.heap.size := Nat.le_trans hb1.size hb2.size
  clear hb1 hb2 hH
  generalize init32 H = st at *
  go_wp2_with (refine wpList_build rfl 67 _ rfl ?_ ?_)
  · rw [HB.out]; rfl
  · rw [HB.out]
    go_ret2
    exact ⟨W2.heap.size, rfl, hsz, hfin, hB2⟩

/-- Block b holds a hash for digests of 64 bytes, to which l has been written. -/
def pre64 : List Value := [.int .i64 64, .int .u32 0, .int .u32 0, .int .u32 0, .int .u32 0, .int .u32 0, .int .u32 0, .int .u32 0, .int .u32 0, .string ⟨#[]⟩, .int .u64 0]
def post64 : List Value := []
structure Hash64 (W : World) (K H : Nat → Int) (b : Nat) (l : List UInt8) : Prop where
  ex : ∃ rest : ByteArray, rest.data.toList = tail128 l ∧ W.heap[b]? = some (.cells (rc64 pre64 post64 (full64 (fun t => K t) (init64 H) l) rest (l.length : Int)) 67)
theorem Hash64.size {W : World} {K H : Nat → Int} {b : Nat} {l : List UInt8} (h : Hash64 W K H b l) : W.cell? ⟨b, 0, none⟩ = some (.int .i64 64) := by
  obtain ⟨rest, _, hr⟩ := h.ex
  rw [cell_of_row W _ _ _ _ _ hr]
  rfl
theorem Hash64.lt {W : World} {K H : Nat → Int} {b : Nat} {l : List UInt8} (h : Hash64 W K H b l) : b < W.heap.size := by
  obtain ⟨rest, _, hr⟩ := h.ex
  exact blk_lt hr
theorem Hash64.kept {W W' : World} {K H : Nat → Int} {b : Nat} {l : List UInt8} (h : Hash64 W K H b l) (e : W'.heap[b]? = W.heap[b]?) : Hash64 W' K H b l := by
  obtain ⟨rest, h1, hr⟩ := h.ex
  exact ⟨rest, h1, e.trans hr⟩

set_option maxHeartbeats 1000000 in
set_option maxRecDepth 100000 in
theorem hashWrite64 (K H : Nat → Int) (b : Nat) (l : List UInt8) (data : ByteArray) (w : World) (hh : Hash64 w K H b l) (hK : TabK w K) (hb : b ≠ 1) (hl : l.length ≤ 549755813888) (hd : data.size ≤ 549755813888) :
    Calls Tryd.prog 19 #[.pointer (some ⟨b, 0, none⟩), .string data] w fun e w' => e = .returned (.int .i64 0) ∧ Hash64 w' K H b (l ++ data.data.toList) ∧ But b w w' := by
  have c0 := hh.size
  have hlt := hh.lt
  go_enter Tryd.func19, Tryd.ntmps19
  go_wp2_with fail
  refine wp_region_reads_tail 5 (by kernel_rfl) (by kernel_rfl) ?_
  simp only [List.take_succ_cons, List.take_zero, List.drop_succ_cons, List.drop_zero]
  repeat (first | go_big_quiet_step ((go_at_call 32; exact Calls.regrown_of (parameters512_any _))) | quiet_step ((go_at_call 32; exact Calls.regrown_of (parameters512_any _))))
  refine wpQuiet_nil ?_
  intro W1 hb1
  obtain ⟨rest, hrest, hrun⟩ := hh.ex
  have hrs : rest.size < 128 := by rw [Lib.size_eq, hrest]; exact tail128_length _
  go_wp2_with fail
  refine (write64_any K b 67 pre64 post64 (full64 (fun t => K t) (init64 H) l) rest data (l.length : Int) W1 (blk_below hb1 hlt hrun) (hK.below hb1 hK.lt) hb hrs (by omega) (by omega) (by omega)).mono ?_
  rintro e W2 ⟨rfl, rest2, hrest2, hrun2, hbut2⟩
  have hfin : Hash64 W2 K H b (l ++ data.data.toList) := by
    have e1 := full64_append (fun t => K t) (init64 H) l data.data.toList
    rw [hrest, e1.1] at hrun2
    rw [hrest, e1.2] at hrest2
    refine ⟨rest2, hrest2, ?_⟩
    rw [hrun2, List.length_append, ← Lib.size_eq]
    simp
  have hbut : But b w W2 := (But.of_below hb1).trans hbut2
  clear hrest2 hrun2 hbut2 hrest hrun hh hb1 c0
  go_wp2_with fail
  go_ret
  exact ⟨rfl, hfin, hbut⟩

/-- The digest of what lies in ten cells, written out. -/
theorem sum64_lit (K : Nat → Int) (st : W8) (rest : ByteArray) (n : Nat) (w : World) (hK : TabK w K) (hr : rest.size < 128) (hn : n ≤ 1099511627776) :
    Calls Tryd.prog 42 #[.agg #[.int .u64 st.a, .int .u64 st.b, .int .u64 st.c, .int .u64 st.d, .int .u64 st.e, .int .u64 st.f, .int .u64 st.g, .int .u64 st.h, .string rest, .int .u64 (n : Int)], prm512] w fun e w' => e = .returned (.string ⟨(dig64 (full64 (fun t => K t) st (rest.data.toList ++ padL 128 16 n))).toArray⟩) ∧ Below w.heap.size w w' :=
  sum64_any K st rest n w hK hr hn

set_option maxHeartbeats 1000000 in
set_option maxRecDepth 100000 in
theorem hashSum64 (K H : Nat → Int) (b : Nat) (l : List UInt8) (w : World) (hh : Hash64 w K H b l) (hK : TabK w K) (hl : l.length ≤ 1099511627776) :
    Calls Tryd.prog 18 #[.pointer (some ⟨b, 0, none⟩)] w fun e w' => e = .returned (.string ⟨(sha512L K H l).toArray⟩) ∧ Below w.heap.size w w' := by
  have c0 := hh.size
  have hlt := hh.lt
  obtain ⟨rest, hrest, hrun⟩ := hh.ex
  have hrs : rest.size < 128 := by rw [Lib.size_eq, hrest]; exact tail128_length _
  have HE := Lib.hid (show sha512L K H l = dig64 (full64 (fun t => K t) (full64 (fun t => K t) (init64 H) l) (rest.data.toList ++ padL 128 16 l.length)) from by
    rw [hrest, (full64_append _ _ _ _).1, sha512L])
  generalize full64 (fun t => K t) (init64 H) l = st at *
  have m : ∀ j, j < 8 → w.cell? ⟨b, 11 + j, none⟩ = some (.int .u64 (st.at j)) := fun j hj => by rw [cell_of_row w _ _ _ _ _ hrun]; exact rc64_state pre64 post64 st rest _ j hj
  have m0 := cell_regrown (m 0 (by omega)); have m1 := cell_regrown (m 1 (by omega)); have m2 := cell_regrown (m 2 (by omega)); have m3 := cell_regrown (m 3 (by omega)); have m4 := cell_regrown (m 4 (by omega)); have m5 := cell_regrown (m 5 (by omega)); have m6 := cell_regrown (m 6 (by omega)); have m7 := cell_regrown (m 7 (by omega))
  have m8 := cell_regrown (show w.cell? ⟨b, 11 + 8, none⟩ = some (.string rest) from by rw [cell_of_row w _ _ _ _ _ hrun]; exact rc64_rest pre64 post64 st rest _)
  have m9 := cell_regrown (show w.cell? ⟨b, 11 + 9, none⟩ = some (.int .u64 (l.length : Int)) from by rw [cell_of_row w _ _ _ _ _ hrun]; exact rc64_len pre64 post64 st rest _)
  simp only [W8.at, Nat.reduceAdd] at m0 m1 m2 m3 m4 m5 m6 m7 m8 m9
  clear m hrun hrest hh
  go_enter Tryd.func18, Tryd.ntmps18
  go_wp2_with fail
  refine wp_region_reads (by kernel_rfl) (by kernel_rfl) ?_
  repeat (first | go_big_quiet_step (first | (go_at_call 32; exact Calls.regrown_of (parameters512_any _)) | (go_at_call 42; exact Calls.regrown_of (sum64_lit K st rest l.length _ (hK.below (below_regrown _ _ _) hK.lt) hrs hl))) | quiet_step (first | (go_at_call 32; exact Calls.regrown_of (parameters512_any _)) | (go_at_call 42; exact Calls.regrown_of (sum64_lit K st rest l.length _ (hK.below (below_regrown _ _ _) hK.lt) hrs hl))))
  refine wpQuiet_nil ?_
  intro W1 hb1
  clear m0 m1 m2 m3 m4 m5 m6 m7 m8 m9 c0
  go_wp2_with fail
  go_ret
  exact ⟨by rw [HE.out]; rfl, hb1⟩

theorem built64 (H : Nat → Int) : Tryd.prog.built 67 [(0, .int .i64 64), (2, .agg (rc64 [] [] (init64 H) ⟨#[]⟩ 0))] = some (rc64 pre64 post64 (init64 H) ⟨#[]⟩ 0) := by kernel_rfl

set_option maxHeartbeats 1000000 in
theorem new64 (K H : Nat → Int) (w : World) (hH : TabH w H) :
    Calls Tryd.prog 16 #[.int .i64 64] w fun e w' => ∃ b, e = .returned (.tuple #[.pointer (some ⟨b, 0, none⟩), .int .i64 0]) ∧ w.heap.size ≤ b ∧ Hash64 w' K H b [] ∧ Below w.heap.size w w' := by
  go_enter Tryd.func16, Tryd.ntmps16
  go_wp2_with fail
  refine (parameters512_any _).mono ?_
  rintro e W1 ⟨rfl, hb1⟩
  go_wp2_with fail
  refine (start64_any H _ (hH.below hb1 hH.lt)).mono ?_
  rintro e W2 ⟨rfl, hb2⟩
  have HB := Lib.hid (built64 H)
  have hfin : Hash64 (W2.alloc (.cells (rc64 pre64 post64 (init64 H) ⟨#[]⟩ 0) 67)) K H W2.heap.size [] := ⟨⟨#[]⟩, rfl, blk_new W2 _⟩
  have hB2 : Below w.heap.size w (W2.alloc (.cells (rc64 pre64 post64 (init64 H) ⟨#[]⟩ 0) 67)) := (hb1.trans (hb2.mono hb1.size)).alloc (Nat.le_trans hb1.size hb2.size) _
  have hsz : w.heap.size ≤ W2.heap.size := Nat.le_trans hb1.size hb2.size
  clear hb1 hb2 hH
  generalize init64 H = st at *
  go_wp2_with (refine wpList_build rfl 67 _ rfl ?_ ?_)
  · rw [HB.out]; rfl
  · rw [HB.out]
    go_ret2
    exact ⟨W2.heap.size, rfl, hsz, hfin, hB2⟩

end Go.Proofs.YthcfolefdalaiaaDoor
