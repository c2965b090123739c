/- The key schedule on texts: what the document says each secret is. Arithmetic alone. -/
import Derived.Test.YtjjgakkijhjaiaaDoorMacP
namespace Go.Proofs.YtjjgakkijhjaiaaDoor
open Go.RowKit Go.Sort
set_option maxRecDepth 100000
set_option linter.unusedSimpArgs false
set_option linter.unusedVariables false

def kE : ByteArray := ⟨#[]⟩
/-- What Label, Extract, Mac and Sum256 answer. -/
def labB (key label ctx : ByteArray) (n : Nat) : ByteArray := ⟨(expL (blockL (keyOf32 key.data.toList)) (labelL label.data.toList ctx.data.toList n) n).toArray⟩
def macB (key data : ByteArray) : ByteArray := ⟨(mac32 key.data.toList data.data.toList).toArray⟩
def shaB (s : ByteArray) : ByteArray := ⟨(sha256L kf hf s.data.toList).toArray⟩
theorem labB_size (key label ctx : ByteArray) (n : Nat) : (labB key label ctx n).size = n := expL_length _ _ _
theorem macB_size (key data : ByteArray) : (macB key data).size = 32 := code32_length _ _
theorem shaB_size (s : ByteArray) : (shaB s).size = 32 := sha256L_length _ _ _
def zB : ByteArray := ⟨#[0, 0, 0, 0, 0, 0, 0, 0, 0, 0, 0, 0, 0, 0, 0, 0, 0, 0, 0, 0, 0, 0, 0, 0, 0, 0, 0, 0, 0, 0, 0, 0]⟩
def wDerived : ByteArray := ⟨#[100, 101, 114, 105, 118, 101, 100]⟩
def wKey : ByteArray := ⟨#[107, 101, 121]⟩
def wIv : ByteArray := ⟨#[105, 118]⟩
def wUpd : ByteArray := ⟨#[116, 114, 97, 102, 102, 105, 99, 32, 117, 112, 100]⟩
def wFin : ByteArray := ⟨#[102, 105, 110, 105, 115, 104, 101, 100]⟩
/-- What each function answers. -/
def erlB : ByteArray := macB kE zB
def secX (f l s : ByteArray) : ByteArray := if 249 < l.size then kE else labB f l (shaB s) 32
def secE (l : ByteArray) : Int := if 249 < l.size then 13 else 0
def derB (f : ByteArray) : ByteArray := labB f wDerived (shaB kE) 32
def hsB (s : ByteArray) : ByteArray := macB (derB erlB) s
def maB (h : ByteArray) : ByteArray := macB (derB h) zB
def sizeK (n : Int) : Nat := if n = 4865 then 16 else if n = 4867 then 32 else 0
def traX (n : Int) (s : ByteArray) : ByteArray := if sizeK n = 0 then kE else labB s wKey kE (sizeK n)
def traI (n : Int) (s : ByteArray) : ByteArray := if sizeK n = 0 then kE else labB s wIv kE 12
def traE (n : Int) : Int := if sizeK n = 0 then 1 else 0
def nxB (s : ByteArray) : ByteArray := labB s wUpd kE 32
def tagB (s said : ByteArray) : ByteArray := macB (labB s wFin kE 32) (shaB said)
def spB (n : Nat) : ByteArray := ⟨(List.replicate n 32).toArray⟩
def wTls : ByteArray := ⟨#[84, 76, 83, 32, 49, 46, 51, 44, 32]⟩
def wWho (b : Bool) : ByteArray := if b then ⟨#[115, 101, 114, 118, 101, 114]⟩ else ⟨#[99, 108, 105, 101, 110, 116]⟩
def wVer : ByteArray := ⟨#[32, 67, 101, 114, 116, 105, 102, 105, 99, 97, 116, 101, 86, 101, 114, 105, 102, 121, 0]⟩
def sigB (b : Bool) (said : ByteArray) : ByteArray := spB 64 ++ wTls ++ wWho b ++ wVer ++ shaB said
theorem spB_size (n : Nat) : (spB n).size = n := by simp [spB, ByteArray.size]
theorem wWho_size (b : Bool) : (wWho b).size = 6 := by cases b <;> rfl
theorem sigB_size (b : Bool) (said : ByteArray) : (sigB b said).size = 130 := by
  simp only [sigB, ByteArray.size_append, spB_size, wWho_size, shaB_size]; rfl
theorem erl_begins : (erlB.data.toList.take 4 == [51, 173, 10, 28]) = true := by decide +kernel
end Go.Proofs.YtjjgakkijhjaiaaDoor
