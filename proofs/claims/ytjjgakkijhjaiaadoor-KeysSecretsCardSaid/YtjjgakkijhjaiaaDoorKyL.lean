/- The laws on keys, over the program's calls. -/
import Derived.Test.YtjjgakkijhjaiaaDoorKyC
namespace Go.Proofs.YtjjgakkijhjaiaaDoor
open Go.RowKit Go.Sort
set_option maxRecDepth 100000
set_option linter.unusedSimpArgs false
set_option linter.unusedVariables false

set_option maxHeartbeats 4000000 in
theorem keysSecrets_of (C : KyCalls) (f l s : ByteArray) (w : World) (hT : ShQ w) :
    Calls Tryd.prog 3 #[.string f, .string l, .string s] w fun e w' => e = .returned (.bool true) ∧ Below w.heap.size w w' := by
  have hb := Below.refl w.heap.size w
  have HT := Lib.hid hT
  clear hT
  by_cases h0 : 1000 < f.size
  · have d0 : decide ((1000 : Int) < (f.size : Int)) = true := by simp; omega
    go_enter Tryd.func3, Tryd.ntmps3
    go_wp2_with fail
    refine (kyawake_of C _ HT.out).mono ?_
    rintro e W' ⟨rfl, bk⟩
    replace hb := hb.trans (bk.mono hb.size)
    clear bk
    go_wp2_with fail
    go_ret
    exact ⟨rfl, hb⟩
  have d0 : decide ((1000 : Int) < (f.size : Int)) = false := by simp; omega
  by_cases h1 : 1000 < l.size
  · have d1 : decide ((1000 : Int) < (l.size : Int)) = true := by simp; omega
    go_enter Tryd.func3, Tryd.ntmps3
    go_wp2_with fail
    refine (kyawake_of C _ HT.out).mono ?_
    rintro e W' ⟨rfl, bk⟩
    replace hb := hb.trans (bk.mono hb.size)
    clear bk
    go_wp2_with fail
    go_ret
    exact ⟨rfl, hb⟩
  have d1 : decide ((1000 : Int) < (l.size : Int)) = false := by simp; omega
  by_cases h2 : 1000 < s.size
  · have d2 : decide ((1000 : Int) < (s.size : Int)) = true := by simp; omega
    go_enter Tryd.func3, Tryd.ntmps3
    go_wp2_with fail
    refine (kyawake_of C _ HT.out).mono ?_
    rintro e W' ⟨rfl, bk⟩
    replace hb := hb.trans (bk.mono hb.size)
    clear bk
    go_wp2_with fail
    go_ret
    exact ⟨rfl, hb⟩
  have d2 : decide ((1000 : Int) < (s.size : Int)) = false := by simp; omega
  have CP := Lib.hid (fun W hW => C.secret f l s W hW (by omega) (by omega) (by omega))
  have CR := Lib.hid (fun W => rsecret_any f l s W (by omega) (by omega))
  generalize secX f l s = x at *
  generalize secE l = er at *
  have q_x : (x.toList == x.toList) = true := by simp
  have q_e : (er == er) = true := by simp
  go_enter Tryd.func3, Tryd.ntmps3
  go_wp2_with fail
  refine (CP.out _ HT.out).mono ?_
  rintro e W' ⟨rfl, bk⟩
  replace hb := hb.trans (bk.mono hb.size)
  replace HT := Lib.hid (HT.out.step bk)
  clear bk CP
  go_wp2_with fail
  refine (CR.out _).mono ?_
  rintro e W' ⟨rfl, bk⟩
  replace hb := hb.trans (bk.mono hb.size)
  replace HT := Lib.hid (HT.out.step bk)
  clear bk CR
  go_wp2_with fail
  refine (kyawake_of C _ HT.out).mono ?_
  rintro e W' ⟨rfl, bk⟩
  replace hb := hb.trans (bk.mono hb.size)
  clear bk
  go_wp2_with fail
  go_ret
  exact ⟨rfl, hb⟩
set_option maxHeartbeats 4000000 in
theorem keysSteps_of (C : KyCalls) (s : ByteArray) (w : World) (hT : ShQ w) :
    Calls Tryd.prog 4 #[.string s] w fun e w' => e = .returned (.bool true) ∧ Below w.heap.size w w' := by
  have hb := Below.refl w.heap.size w
  have HT := Lib.hid hT
  clear hT
  by_cases h0 : 1000 < s.size
  · have d0 : decide ((1000 : Int) < (s.size : Int)) = true := by simp; omega
    go_enter Tryd.func4, Tryd.ntmps4
    go_wp2_with fail
    refine (kyawake_of C _ HT.out).mono ?_
    rintro e W' ⟨rfl, bk⟩
    replace hb := hb.trans (bk.mono hb.size)
    clear bk
    go_wp2_with fail
    go_ret
    exact ⟨rfl, hb⟩
  have d0 : decide ((1000 : Int) < (s.size : Int)) = false := by simp; omega
  have hz : (hsB s).size = 32 := macB_size _ _
  have CH := Lib.hid (fun W hW => C.handshake s W hW (by omega))
  have CE := Lib.hid (fun W hW => C.early W hW)
  have RE := Lib.hid (fun W => rearly_any W)
  have RH := Lib.hid (fun W => rhandshake_any s W (by omega))
  have CM := Lib.hid (fun W hW => C.master (hsB s) W hW (by omega))
  have RM := Lib.hid (fun W => rmaster_any (hsB s) W (by omega))
  have CN := Lib.hid (fun W hW => C.master s W hW (by omega))
  have RN := Lib.hid (fun W => rmaster_any s W (by omega))
  generalize maB (hsB s) = x1 at *
  generalize maB s = x2 at *
  generalize hsB s = x3 at *
  generalize erlB = x4 at *
  have q_x1 : (x1.toList == x1.toList) = true := by simp
  have q_x2 : (x2.toList == x2.toList) = true := by simp
  have q_x3 : (x3.toList == x3.toList) = true := by simp
  have q_x4 : (x4.toList == x4.toList) = true := by simp
  clear hz
  go_enter Tryd.func4, Tryd.ntmps4
  go_wp2_with fail
  refine (CH.out _ HT.out).mono ?_
  rintro e W' ⟨rfl, bk⟩
  replace hb := hb.trans (bk.mono hb.size)
  replace HT := Lib.hid (HT.out.step bk)
  clear bk CH
  go_wp2_with fail
  refine (CE.out _ HT.out).mono ?_
  rintro e W' ⟨rfl, bk⟩
  replace hb := hb.trans (bk.mono hb.size)
  replace HT := Lib.hid (HT.out.step bk)
  clear bk CE
  go_wp2_with fail
  refine (RE.out _).mono ?_
  rintro e W' ⟨rfl, bk⟩
  replace hb := hb.trans (bk.mono hb.size)
  replace HT := Lib.hid (HT.out.step bk)
  clear bk RE
  go_wp2_with fail
  refine (RH.out _).mono ?_
  rintro e W' ⟨rfl, bk⟩
  replace hb := hb.trans (bk.mono hb.size)
  replace HT := Lib.hid (HT.out.step bk)
  clear bk RH
  go_wp2_with fail
  refine (CM.out _ HT.out).mono ?_
  rintro e W' ⟨rfl, bk⟩
  replace hb := hb.trans (bk.mono hb.size)
  replace HT := Lib.hid (HT.out.step bk)
  clear bk CM
  go_wp2_with fail
  refine (RM.out _).mono ?_
  rintro e W' ⟨rfl, bk⟩
  replace hb := hb.trans (bk.mono hb.size)
  replace HT := Lib.hid (HT.out.step bk)
  clear bk RM
  go_wp2_with fail
  refine (CN.out _ HT.out).mono ?_
  rintro e W' ⟨rfl, bk⟩
  replace hb := hb.trans (bk.mono hb.size)
  replace HT := Lib.hid (HT.out.step bk)
  clear bk CN
  go_wp2_with fail
  refine (RN.out _).mono ?_
  rintro e W' ⟨rfl, bk⟩
  replace hb := hb.trans (bk.mono hb.size)
  replace HT := Lib.hid (HT.out.step bk)
  clear bk RN
  go_wp2_with fail
  refine (kyawake_of C _ HT.out).mono ?_
  rintro e W' ⟨rfl, bk⟩
  replace hb := hb.trans (bk.mono hb.size)
  clear bk
  go_wp2_with fail
  go_ret
  exact ⟨rfl, hb⟩
set_option maxHeartbeats 4000000 in
theorem keysTraffic_of (C : KyCalls) (n : Int) (s : ByteArray) (w : World) (hT : ShQ w) :
    Calls Tryd.prog 5 #[.int .i64 n, .string s] w fun e w' => e = .returned (.bool true) ∧ Below w.heap.size w w' := by
  have hb := Below.refl w.heap.size w
  have HT := Lib.hid hT
  clear hT
  by_cases h0 : 1000 < s.size
  · have d0 : decide ((1000 : Int) < (s.size : Int)) = true := by simp; omega
    go_enter Tryd.func5, Tryd.ntmps5
    go_wp2_with fail
    refine (kyawake_of C _ HT.out).mono ?_
    rintro e W' ⟨rfl, bk⟩
    replace hb := hb.trans (bk.mono hb.size)
    clear bk
    go_wp2_with fail
    go_ret
    exact ⟨rfl, hb⟩
  have d0 : decide ((1000 : Int) < (s.size : Int)) = false := by simp; omega
  have CP := Lib.hid (fun W hW => C.traffic n s W hW (by omega))
  have CR := Lib.hid (fun W => rtraffic_any n s W (by omega))
  have CN := Lib.hid (fun W hW => C.next s W hW (by omega))
  have RN := Lib.hid (fun W => rnext_any s W (by omega))
  generalize traX n s = x1 at *
  generalize traI n s = x2 at *
  generalize traE n = er at *
  generalize nxB s = x3 at *
  have q_x1 : (x1.toList == x1.toList) = true := by simp
  have q_x2 : (x2.toList == x2.toList) = true := by simp
  have q_x3 : (x3.toList == x3.toList) = true := by simp
  have q_e : (er == er) = true := by simp
  go_enter Tryd.func5, Tryd.ntmps5
  go_wp2_with fail
  refine (CP.out _ HT.out).mono ?_
  rintro e W' ⟨rfl, bk⟩
  replace hb := hb.trans (bk.mono hb.size)
  replace HT := Lib.hid (HT.out.step bk)
  clear bk CP
  go_wp2_with fail
  refine (CR.out _).mono ?_
  rintro e W' ⟨rfl, bk⟩
  replace hb := hb.trans (bk.mono hb.size)
  replace HT := Lib.hid (HT.out.step bk)
  clear bk CR
  go_wp2_with fail
  refine (CN.out _ HT.out).mono ?_
  rintro e W' ⟨rfl, bk⟩
  replace hb := hb.trans (bk.mono hb.size)
  replace HT := Lib.hid (HT.out.step bk)
  clear bk CN
  go_wp2_with fail
  refine (RN.out _).mono ?_
  rintro e W' ⟨rfl, bk⟩
  replace hb := hb.trans (bk.mono hb.size)
  replace HT := Lib.hid (HT.out.step bk)
  clear bk RN
  go_wp2_with fail
  refine (kyawake_of C _ HT.out).mono ?_
  rintro e W' ⟨rfl, bk⟩
  replace hb := hb.trans (bk.mono hb.size)
  clear bk
  go_wp2_with fail
  go_ret
  exact ⟨rfl, hb⟩
set_option maxHeartbeats 4000000 in
theorem keysTags_of (C : KyCalls) (s d : ByteArray) (b : Bool) (w : World) (hT : ShQ w) :
    Calls Tryd.prog 6 #[.string s, .string d, .bool b] w fun e w' => e = .returned (.bool true) ∧ Below w.heap.size w w' := by
  have hb := Below.refl w.heap.size w
  have HT := Lib.hid hT
  clear hT
  by_cases h0 : 1000 < s.size
  · have d0 : decide ((1000 : Int) < (s.size : Int)) = true := by simp; omega
    go_enter Tryd.func6, Tryd.ntmps6
    go_wp2_with fail
    refine (kyawake_of C _ HT.out).mono ?_
    rintro e W' ⟨rfl, bk⟩
    replace hb := hb.trans (bk.mono hb.size)
    clear bk
    go_wp2_with fail
    go_ret
    exact ⟨rfl, hb⟩
  have d0 : decide ((1000 : Int) < (s.size : Int)) = false := by simp; omega
  by_cases h1 : 1000 < d.size
  · have d1 : decide ((1000 : Int) < (d.size : Int)) = true := by simp; omega
    go_enter Tryd.func6, Tryd.ntmps6
    go_wp2_with fail
    refine (kyawake_of C _ HT.out).mono ?_
    rintro e W' ⟨rfl, bk⟩
    replace hb := hb.trans (bk.mono hb.size)
    clear bk
    go_wp2_with fail
    go_ret
    exact ⟨rfl, hb⟩
  have d1 : decide ((1000 : Int) < (d.size : Int)) = false := by simp; omega
  have CP := Lib.hid (fun W hW => C.tag s d W hW (by omega) (by omega))
  have CR := Lib.hid (fun W => rtag_any s d W (by omega) (by omega))
  have CN := Lib.hid (fun W hW => C.signed b d W hW (by omega))
  have RN := Lib.hid (fun W => rsigned_any b d W (by omega))
  generalize tagB s d = x1 at *
  generalize sigB b d = x2 at *
  have q_x1 : (x1.toList == x1.toList) = true := by simp
  have q_x2 : (x2.toList == x2.toList) = true := by simp
  go_enter Tryd.func6, Tryd.ntmps6
  go_wp2_with fail
  refine (CP.out _ HT.out).mono ?_
  rintro e W' ⟨rfl, bk⟩
  replace hb := hb.trans (bk.mono hb.size)
  replace HT := Lib.hid (HT.out.step bk)
  clear bk CP
  go_wp2_with fail
  refine (CR.out _).mono ?_
  rintro e W' ⟨rfl, bk⟩
  replace hb := hb.trans (bk.mono hb.size)
  replace HT := Lib.hid (HT.out.step bk)
  clear bk CR
  go_wp2_with fail
  refine (CN.out _ HT.out).mono ?_
  rintro e W' ⟨rfl, bk⟩
  replace hb := hb.trans (bk.mono hb.size)
  replace HT := Lib.hid (HT.out.step bk)
  clear bk CN
  go_wp2_with fail
  refine (RN.out _).mono ?_
  rintro e W' ⟨rfl, bk⟩
  replace hb := hb.trans (bk.mono hb.size)
  replace HT := Lib.hid (HT.out.step bk)
  clear bk RN
  go_wp2_with fail
  refine (kyawake_of C _ HT.out).mono ?_
  rintro e W' ⟨rfl, bk⟩
  replace hb := hb.trans (bk.mono hb.size)
  clear bk
  go_wp2_with fail
  go_ret
  exact ⟨rfl, hb⟩
set_option maxHeartbeats 4000000 in
theorem keysNext_of (C : KyCalls) (s : ByteArray) (w : World) (hT : ShQ w) :
    Calls Tryd.prog 8 #[.string s] w fun e w' => e = .returned (.bool true) ∧ Below w.heap.size w w' := by
  have hb := Below.refl w.heap.size w
  have HT := Lib.hid hT
  clear hT
  by_cases h0 : 1000 < s.size
  · have d0 : decide ((1000 : Int) < (s.size : Int)) = true := by simp; omega
    go_enter Tryd.func8, Tryd.ntmps8
    go_wp2_with fail
    refine (kyawake_of C _ HT.out).mono ?_
    rintro e W' ⟨rfl, bk⟩
    replace hb := hb.trans (bk.mono hb.size)
    clear bk
    go_wp2_with fail
    go_ret
    exact ⟨rfl, hb⟩
  have d0 : decide ((1000 : Int) < (s.size : Int)) = false := by simp; omega
  have CP := Lib.hid (fun W hW => C.next s W hW (by omega))
  have CR := Lib.hid (fun W => rnext_any s W (by omega))
  generalize nxB s = x1 at *
  have q_x1 : (x1.toList == x1.toList) = true := by simp
  go_enter Tryd.func8, Tryd.ntmps8
  go_wp2_with fail
  refine (CP.out _ HT.out).mono ?_
  rintro e W' ⟨rfl, bk⟩
  replace hb := hb.trans (bk.mono hb.size)
  replace HT := Lib.hid (HT.out.step bk)
  clear bk CP
  go_wp2_with fail
  refine (CR.out _).mono ?_
  rintro e W' ⟨rfl, bk⟩
  replace hb := hb.trans (bk.mono hb.size)
  replace HT := Lib.hid (HT.out.step bk)
  clear bk CR
  go_wp2_with fail
  refine (kyawake_of C _ HT.out).mono ?_
  rintro e W' ⟨rfl, bk⟩
  replace hb := hb.trans (bk.mono hb.size)
  clear bk
  go_wp2_with fail
  go_ret
  exact ⟨rfl, hb⟩
set_option maxHeartbeats 4000000 in
theorem keysMaster_of (C : KyCalls) (s : ByteArray) (w : World) (hT : ShQ w) :
    Calls Tryd.prog 9 #[.string s] w fun e w' => e = .returned (.bool true) ∧ Below w.heap.size w w' := by
  have hb := Below.refl w.heap.size w
  have HT := Lib.hid hT
  clear hT
  by_cases h0 : 1000 < s.size
  · have d0 : decide ((1000 : Int) < (s.size : Int)) = true := by simp; omega
    go_enter Tryd.func9, Tryd.ntmps9
    go_wp2_with fail
    refine (kyawake_of C _ HT.out).mono ?_
    rintro e W' ⟨rfl, bk⟩
    replace hb := hb.trans (bk.mono hb.size)
    clear bk
    go_wp2_with fail
    go_ret
    exact ⟨rfl, hb⟩
  have d0 : decide ((1000 : Int) < (s.size : Int)) = false := by simp; omega
  have CP := Lib.hid (fun W hW => C.master s W hW (by omega))
  have CR := Lib.hid (fun W => rmaster_any s W (by omega))
  generalize maB s = x1 at *
  have q_x1 : (x1.toList == x1.toList) = true := by simp
  go_enter Tryd.func9, Tryd.ntmps9
  go_wp2_with fail
  refine (CP.out _ HT.out).mono ?_
  rintro e W' ⟨rfl, bk⟩
  replace hb := hb.trans (bk.mono hb.size)
  replace HT := Lib.hid (HT.out.step bk)
  clear bk CP
  go_wp2_with fail
  refine (CR.out _).mono ?_
  rintro e W' ⟨rfl, bk⟩
  replace hb := hb.trans (bk.mono hb.size)
  replace HT := Lib.hid (HT.out.step bk)
  clear bk CR
  go_wp2_with fail
  refine (kyawake_of C _ HT.out).mono ?_
  rintro e W' ⟨rfl, bk⟩
  replace hb := hb.trans (bk.mono hb.size)
  clear bk
  go_wp2_with fail
  go_ret
  exact ⟨rfl, hb⟩
set_option maxHeartbeats 4000000 in
theorem keysSigned_of (C : KyCalls) (s : ByteArray) (b : Bool) (w : World) (hT : ShQ w) :
    Calls Tryd.prog 10 #[.string s, .bool b] w fun e w' => e = .returned (.bool true) ∧ Below w.heap.size w w' := by
  have hb := Below.refl w.heap.size w
  have HT := Lib.hid hT
  clear hT
  by_cases h0 : 1000 < s.size
  · have d0 : decide ((1000 : Int) < (s.size : Int)) = true := by simp; omega
    go_enter Tryd.func10, Tryd.ntmps10
    go_wp2_with fail
    refine (kyawake_of C _ HT.out).mono ?_
    rintro e W' ⟨rfl, bk⟩
    replace hb := hb.trans (bk.mono hb.size)
    clear bk
    go_wp2_with fail
    go_ret
    exact ⟨rfl, hb⟩
  have d0 : decide ((1000 : Int) < (s.size : Int)) = false := by simp; omega
  have CP := Lib.hid (fun W hW => C.signed b s W hW (by omega))
  have CR := Lib.hid (fun W => rsigned_any b s W (by omega))
  generalize sigB b s = x1 at *
  have q_x1 : (x1.toList == x1.toList) = true := by simp
  go_enter Tryd.func10, Tryd.ntmps10
  go_wp2_with fail
  refine (CP.out _ HT.out).mono ?_
  rintro e W' ⟨rfl, bk⟩
  replace hb := hb.trans (bk.mono hb.size)
  replace HT := Lib.hid (HT.out.step bk)
  clear bk CP
  go_wp2_with fail
  refine (CR.out _).mono ?_
  rintro e W' ⟨rfl, bk⟩
  replace hb := hb.trans (bk.mono hb.size)
  replace HT := Lib.hid (HT.out.step bk)
  clear bk CR
  go_wp2_with fail
  refine (kyawake_of C _ HT.out).mono ?_
  rintro e W' ⟨rfl, bk⟩
  replace hb := hb.trans (bk.mono hb.size)
  clear bk
  go_wp2_with fail
  go_ret
  exact ⟨rfl, hb⟩
end Go.Proofs.YtjjgakkijhjaiaaDoor
