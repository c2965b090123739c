/- The two tables of package sha, as the program's text has them, and the digests of the text abc. -/
import Derived.Test.YthcfolefdalaiaaDoorDig32
import Derived.Test.YthcfolefdalaiaaDoorDig64
namespace Go.Proofs.YthcfolefdalaiaaDoor
open Go.RowKit
set_option maxRecDepth 100000
set_option linter.unusedSimpArgs false
set_option linter.unusedVariables false

def kList : List Int := [4794697086780616226, 8158064640168781261, 13096744586834688815, 16840607885511220156, 4131703408338449720, 6480981068601479193, 10538285296894168987, 12329834152419229976, 15566598209576043074, 1334009975649890238, 2608012711638119052, 6128411473006802146, 8268148722764581231, 9286055187155687089, 11230858885718282805, 13951009754708518548, 16472876342353939154, 17275323862435702243, 1135362057144423861, 2597628984639134821, 3308224258029322869, 5365058923640841347, 6679025012923562964, 8573033837759648693, 10970295158949994411, 12119686244451234320, 12683024718118986047, 13788192230050041572, 14330467153632333762, 15395433587784984357, 489312712824947311, 1452737877330783856, 2861767655752347644, 3322285676063803686, 5560940570517711597, 5996557281743188959, 7280758554555802590, 8532644243296465576, 9350256976987008742, 10552545826968843579, 11727347734174303076, 12113106623233404929, 14000437183269869457, 14369950271660146224, 15101387698204529176, 15463397548674623760, 17586052441742319658, 1182934255886127544, 1847814050463011016, 2177327727835720531, 2830643537854262169, 3796741975233480872, 4115178125766777443, 5681478168544905931, 6601373596472566643, 7507060721942968483, 8399075790359081724, 8693463985226723168, 9568029438360202098, 10144078919501101548, 10430055236837252648, 11840083180663258601, 13761210420658862357, 14299343276471374635, 14566680578165727644, 15097957966210449927, 16922976911328602910, 17689382322260857208, 500013540394364858, 748580250866718886, 1242879168328830382, 1977374033974150939, 2944078676154940804, 3659926193048069267, 4368137639120453308, 4836135668995329356, 5532061633213252278, 6448918945643986474, 6902733635092675308, 7801388544844847127]
def hList : List Int := [7640891576956012808, 13503953896175478587, 4354685564936845355, 11912009170470909681, 5840696475078001361, 11170449401992604703, 2270897969802886507, 6620516959819538809]
def kf (t : Nat) : Int := kList.getD t 0
def hf (t : Nat) : Int := hList.getD t 0

theorem abc256 : ((sha256L kf hf [97, 98, 99]).take 4 == [186, 120, 22, 191]) = true := by decide +kernel
theorem abc512 : ((sha512L kf hf [97, 98, 99]).take 4 == [221, 175, 53, 161]) = true := by decide +kernel
theorem sha256L_length (K H : Nat → Int) (l : List UInt8) : (sha256L K H l).length = 32 := dig32_length _
theorem sha512L_length (K H : Nat → Int) (l : List UInt8) : (sha512L K H l).length = 64 := dig64_length _

/-- What is asked of a digest's beginning. -/
theorem begins (l m : List UInt8) (n : Nat) (hl : l.length = n) (h : (l.take 4 == m) = true) (hn : 4 ≤ n) :
    (((⟨l.toArray⟩ : ByteArray).size : Int) == (n : Int)) = true ∧ (4 : Int) ≤ ((⟨l.toArray⟩ : ByteArray).size : Int) ∧ (((⟨l.toArray⟩ : ByteArray).extract 0 4).toList == m) = true := by
  have e : (⟨l.toArray⟩ : ByteArray).size = n := by rw [← hl]; rfl
  refine ⟨by rw [e]; simp, by rw [e]; omega, ?_⟩
  rw [Lib.toList_data, Lib.extract_data]
  simpa using h

set_option maxHeartbeats 1000000 in
theorem awake_any (w : World) (hK : TabK w kf) (hH : TabH w hf) :
    Calls Tryd.prog 15 #[] w fun e w' => e = .returned (.bool true) ∧ Below w.heap.size w w' := by
  go_enter Tryd.func15, Tryd.ntmps15
  go_wp2_with fail
  refine (sum256_any kf hf ⟨#[97, 98, 99]⟩ _ hK hH (by decide)).mono ?_
  rintro e W1 ⟨rfl, hb1⟩
  have hK1 := hK.below hb1 hK.lt
  have hH1 := hH.below hb1 hH.lt
  obtain ⟨a1, a2, a3⟩ := begins _ _ 32 (sha256L_length kf hf [97, 98, 99]) abc256 (by omega)
  have A1 := Lib.hid a1; have A3 := Lib.hid a3; have A2 := Lib.hid a2
  clear a1 a2 a3 hK hH
  generalize (⟨(sha256L kf hf [97, 98, 99]).toArray⟩ : ByteArray) = a at *
  go_wp2_with fail
  refine (sum512_any kf hf ⟨#[97, 98, 99]⟩ _ hK1 hH1 (by decide)).mono ?_
  rintro e W2 ⟨rfl, hb2⟩
  obtain ⟨b1, b2, b3⟩ := begins _ _ 64 (sha512L_length kf hf [97, 98, 99]) abc512 (by omega)
  generalize (⟨(sha512L kf hf [97, 98, 99]).toArray⟩ : ByteArray) = b at *
  have a1 := A1.out; have a2 := A2.out; have a3 := A3.out
  clear A1 A2 A3
  simp only [Int.cast_ofNat_Int] at a1 b1
  go_wp2_with fail
  go_ret
  exact ⟨rfl, hb1.trans (hb2.mono hb1.size)⟩
end Go.Proofs.YthcfolefdalaiaaDoor
