/- Decode, where bytes are too few or a length too great: the reference's. -/
import Derived.Test.YtjemikbnncfonaaHeE
namespace Go.Proofs.Ytjemikbnncfonaa
open Go.RowKit Go.Sort
set_option maxRecDepth 100000
set_option linter.unusedSimpArgs false
set_option linter.unusedVariables false

def zM : Array Value := msC noM (.slice none 0 0)
theorem infoMsg : (Try.prog.info? 31).map (fun i => (i.zero, i.size)) = some (some (.agg zM), 6) := by kernel_rfl
theorem sizeMsg (m : HMsg) (v : Value) : (Try.prog.info? 31).map (·.size) = some (msC m v).size := by
  have h := infoMsg
  cases hq : Try.prog.info? 31 with
  | none => rw [hq] at h; cases h
  | some i =>
    rw [hq] at h
    simp only [Option.map_some, Option.some.injEq, Prod.mk.injEq] at h ⊢
    rw [h.2]; rfl
theorem oneMsg (m : HMsg) (a : Option Addr) (n c : Nat) : (msC m (.slice a n c)).all (·.oneCell') = true := by simp [msC, Value.oneCell']
theorem sizeZ : (Try.prog.info? 31).map (·.size) = some zM.size := sizeMsg _ _
theorem oneZ : zM.all (·.oneCell') = true := oneMsg _ _ _ _
theorem results_row_tmp2 {P : Program} {fn : Func} {p u v : Tmp} {ty : TypeId} (h : fn.results = #[.cell p ty, .tmp u, .tmp v]) (tmps : Array Value) (w : World) (g : Nat) (t : TypeId) (cs : Array Value) (fr : Nat × Nat) (d : TypeDesc)
    (hp : tmps.getD p undef = .pointer (some ⟨g, 0, none⟩)) (hg : w.heap[g]? = some (.cells cs t fr)) (hu : P.underlying ty = some d) (hd : (match d with | .struct _ | .array _ _ => true | _ => false) = true) (hi : (P.info? ty).map (·.size) = some cs.size) :
    (results fn tmps).run P w = .ok (.tuple #[.agg cs, tmps.getD u undef, tmps.getD v undef]) w := by
  have e1 := run_loadVar_row w g t ty cs fr d hg hu hd hi
  simp only [results, h]
  simp at hp
  simp [Sem.run_bind, Result.andThen, hp, asAddr, e1]
theorem he_run (s : ByteArray) (j : Nat) (h : j < s.size) (W : World) : (Instr.index 9 (.string s) (.int .i64 (j : Int))).run Try.prog W = .ok (.int .u8 (((ofB s).getD j 0).toNat : Int)) W := by
  rw [run_index_string (P := Try.prog) W 9 s .i64 (j : Int) Try.underlying9, he_get s j h]
  simp [h]
/-- What Decode answers, where it refuses. -/
def decA (d : ByteArray) (e : Int) (ao : Option Addr) (c : Nat) : Ending := .returned (.tuple #[.agg (msC (decM d) (.slice ao (decM d).su.length c)), .string (decR d), .int .i64 e])
theorem dec_bad (d : ByteArray) (e : Int) (h : decE d = e) (he : e ≠ 0) : decA d e none 0 = .returned (.tuple #[.agg zM, .string ⟨#[]⟩, .int .i64 e]) := by
  rw [decA, decM, decR, if_neg (by rw [h]; exact he), if_neg (by rw [h]; exact he)]; rfl

set_option maxHeartbeats 4000000 in
theorem rdecFew (d : ByteArray) (w : World) (h : d.size < 4 ∨ 4096 < szH d ∨ d.size < 4 + szH d) (hs : d.size ≤ 100000) :
    Calls Try.prog 13 #[.string d] w fun e w' => e = decA d (decE d) none 0 ∧ Below w.heap.size w w' := by
  obtain ⟨hzz, -⟩ := zero_of_info infoMsg
  have HR := Lib.hid (blk_new w (.cells zM 31))
  have hb := below_new w (.cells zM 31)
  by_cases h4 : d.size < 4
  · have he : decE d = 33 := by rw [decE, if_pos h4]
    have HV : Hid (decA d (decE d) none 0 = .returned (.tuple #[.agg zM, .string ⟨#[]⟩, .int .i64 33])) := Lib.hid (by rw [he]; exact dec_bad d 33 he (by decide))
    have d1 : decide ((d.size : Int) < 4) = true := by simp; omega
    clear h he
    go_enter Try.func13, Try.ntmps13
    go_wp2_with (with_reducible refine wpList_store_row rfl 31 _ _ rfl w.heap.size zM rfl rfl 31 _ HR.out sizeZ rfl oneZ ?_)
    (try simp only [Exit.inBlock, Exit.then]); exact bodyPost_ret (results_row_tmp2 (by rfl) _ _ w.heap.size 31 _ (0, 0) _ rfl (setRow_heap _ _ _ _ _ _ HR.out) Try.underlying31 rfl sizeZ) rfl ⟨by rw [HV.out]; rfl, by exact below_setRow hb (Nat.le_refl _) _⟩
  have d1 : decide ((d.size : Int) < 4) = false := by simp; omega
  have j1 : (1 : Int) < (d.size : Int) := by omega
  have j2 : (2 : Int) < (d.size : Int) := by omega
  have j3 : (3 : Int) < (d.size : Int) := by omega
  have t1 := he_run d 1 (by omega)
  have t2 := he_run d 2 (by omega)
  have t3 := he_run d 3 (by omega)
  rw [show ((1 : Nat) : Int) = 1 from rfl] at t1
  rw [show ((2 : Nat) : Int) = 2 from rfl] at t2
  rw [show ((3 : Nat) : Int) = 3 from rfl] at t3
  have l1 := ((ofB d).getD 1 0).toNat_lt
  have l2 := ((ofB d).getD 2 0).toNat_lt
  have l3 := ((ofB d).getD 3 0).toNat_lt
  obtain ⟨b1, e1⟩ : ∃ b, ((ofB d).getD 1 0).toNat = b := ⟨_, rfl⟩
  obtain ⟨b2, e2⟩ : ∃ b, ((ofB d).getD 2 0).toNat = b := ⟨_, rfl⟩
  obtain ⟨b3, e3⟩ : ∃ b, ((ofB d).getD 3 0).toNat = b := ⟨_, rfl⟩
  obtain ⟨z, hz⟩ : ∃ z, szH d = z := ⟨_, rfl⟩
  have hzs : (65536 : Int) * (b1 : Int) + 256 * (b2 : Int) + (b3 : Int) = (z : Int) := by rw [← hz, szH, e1, e2, e3]; omega
  rw [e1] at t1 l1
  rw [e2] at t2 l2
  rw [e3] at t3 l3
  have x1 : IntKind.i64.wrap (b1 : Int) = (b1 : Int) := by rw [IntKind.wrap_i64]; omega
  have x2 : IntKind.i64.wrap (b2 : Int) = (b2 : Int) := by rw [IntKind.wrap_i64]; omega
  have x3 : IntKind.i64.wrap (b3 : Int) = (b3 : Int) := by rw [IntKind.wrap_i64]; omega
  clear e1 e2 e3
  by_cases h5 : 4096 < z
  · have he : decE d = 13 := by rw [decE, if_neg h4, if_pos (by rw [hz]; exact h5)]
    have HV : Hid (decA d (decE d) none 0 = .returned (.tuple #[.agg zM, .string ⟨#[]⟩, .int .i64 13])) := Lib.hid (by rw [he]; exact dec_bad d 13 he (by decide))
    have d2 : decide ((4096 : Int) < (z : Int)) = true := by simp; omega
    clear h he hz
    go_enter Try.func13, Try.ntmps13
    go_wp2_with fail
    go_quiet (fail)
    have hb := below_drewN hb nq
    replace HR := Lib.hid (blk_below (below_drewN (Below.refl _ _) nq) (blk_lt HR.out) HR.out)
    go_wp2_with (with_reducible refine wpList_store_row rfl 31 _ _ rfl w.heap.size zM rfl rfl 31 _ HR.out sizeZ rfl oneZ ?_)
    (try simp only [Exit.inBlock, Exit.then]); exact bodyPost_ret (results_row_tmp2 (by rfl) _ _ w.heap.size 31 _ (0, 0) _ rfl (setRow_heap _ _ _ _ _ _ HR.out) Try.underlying31 rfl sizeZ) rfl ⟨by rw [HV.out]; rfl, by exact below_setRow hb (Nat.le_refl _) _⟩
  have d2 : decide ((4096 : Int) < (z : Int)) = false := by simp; omega
  have h6 : d.size < 4 + z := by omega
  have he : decE d = 33 := by rw [decE, if_neg h4, if_neg (by rw [hz]; omega), if_pos (by rw [hz]; exact h6)]
  have HV : Hid (decA d (decE d) none 0 = .returned (.tuple #[.agg zM, .string ⟨#[]⟩, .int .i64 33])) := Lib.hid (by rw [he]; exact dec_bad d 33 he (by decide))
  have d3 : decide ((d.size : Int) < 4 + (z : Int)) = true := by simp; omega
  have h5n : ¬ 4096 < z := h5
  clear h he hz
  go_enter Try.func13, Try.ntmps13
  go_wp2_with fail
  go_quiet (fail)
  have hb := below_drewN hb nq
  replace HR := Lib.hid (blk_below (below_drewN (Below.refl _ _) nq) (blk_lt HR.out) HR.out)
  go_wp2_with (with_reducible refine wpList_store_row rfl 31 _ _ rfl w.heap.size zM rfl rfl 31 _ HR.out sizeZ rfl oneZ ?_)
  (try simp only [Exit.inBlock, Exit.then]); exact bodyPost_ret (results_row_tmp2 (by rfl) _ _ w.heap.size 31 _ (0, 0) _ rfl (setRow_heap _ _ _ _ _ _ HR.out) Try.underlying31 rfl sizeZ) rfl ⟨by rw [HV.out]; rfl, by exact below_setRow hb (Nat.le_refl _) _⟩
end Go.Proofs.Ytjemikbnncfonaa
