/-
  NARROWER THAN 'FOR EVERY INPUT', by the rows' own cells (each row's printed sentence says how): RecordSeals: laid · RecordRaw: laid · RecordBack: laid · RecordNil: laid · RecordSizes: laid.
  DERIVED. THE GIVEN ROWS OF THIS SEAT. 5 by the template 'for every input the law returns true; each argument reads behind the call as it read before'; 0 by the template 'total and deterministic' (their statements: YtffnafikegakcaaGreatDoorTotals.lean).
  GIVEN WITH THE SEED: the statements are not yours to turn. If you find one false, say at which input.
  Laid BY PROGRAM, IN A SANDBOX (cutbox-rows.mjs): the forced cells as the released guide's own fill.sh prints them over the translation 90e4eca7e4a5367c… (all of the seat's roots in one cut). By AI agents, Wed Nov 11 2026. No macro, syntax, notation, axiom, sorry.
-/
import Derived.Test.YtffnafikegakcaaGreatDoorChecked
import GoSem.PinnedTables
import GoSem.Claim
import GoSem.ClaimJoined
import GoSem.ClaimMapViews
import Derived.JoinedTies
import Derived.KernelRfl
namespace Go.Proofs.YtffnafikegakcaaGreatDoor
/- THE CELL 'sum', in the pinned program and in every row, IS THE sha256 OF THE DUMP (.gsa) THAT YtffnafikegakcaaGreatDoorProg.lean LOADS. Nothing in Lean hashes anything: it is a label: what it is worth is what the hold of that sum in a sandbox is worth. -/
noncomputable def Tryz.pinned : Pinned := { name := "ytffnafikegakcaagreatdoor", sum := "90e4eca7e4a5367c4efc36f2e34c3e5f31c6ae96e76e0c71b30af349aeca8c1b", checked := Tryz.checked }
namespace Rows
def none {H : Type} : Left H := { results := [], args := [] }

/- WHAT THE LISTED PACKAGE-LEVEL VARIABLES READ AS WHEN THE CALL BEGINS. Each datum BY PROGRAM (the guide's laid-datum.mjs) off the statement by which the dump's own 'gosem.cut.vars' lays the variable. In a bare row this is a premise. The card (YtffnafikegakcaaGreatDoorCards.lean) ties it to the program's text. -/
def laid_unicode_utf8_acceptRanges {H : Type} : DataW H := .agg [.agg [.lit (.int .u8 128), .lit (.int .u8 191)], .agg [.lit (.int .u8 160), .lit (.int .u8 191)], .agg [.lit (.int .u8 128), .lit (.int .u8 159)], .agg [.lit (.int .u8 144), .lit (.int .u8 191)], .agg [.lit (.int .u8 128), .lit (.int .u8 143)], .agg [.lit (.int .u8 0), .lit (.int .u8 0)], .agg [.lit (.int .u8 0), .lit (.int .u8 0)], .agg [.lit (.int .u8 0), .lit (.int .u8 0)], .agg [.lit (.int .u8 0), .lit (.int .u8 0)], .agg [.lit (.int .u8 0), .lit (.int .u8 0)], .agg [.lit (.int .u8 0), .lit (.int .u8 0)], .agg [.lit (.int .u8 0), .lit (.int .u8 0)], .agg [.lit (.int .u8 0), .lit (.int .u8 0)], .agg [.lit (.int .u8 0), .lit (.int .u8 0)], .agg [.lit (.int .u8 0), .lit (.int .u8 0)], .agg [.lit (.int .u8 0), .lit (.int .u8 0)]]
def laid_cresset_aes_squares {H : Type} : DataW H := .agg [.lit (.int .u64 1), .lit (.int .u64 4), .lit (.int .u64 16), .lit (.int .u64 64), .lit (.int .u64 27), .lit (.int .u64 108), .lit (.int .u64 171), .lit (.int .u64 154)]
/-- One of Go's own tables, pinned by name: the form's constant. -/
def laid_unicode_utf8_first : DataW Unit := Go.Pinned.utf8First

/-- 'cressetlaw15.RecordSeals': WHATEVER THE INPUT: true; the input reads as it did. -/
def recordSealsSpec : ChangeSpec := { name := "recordSeals", fn := fun _ => fun
  | [d1, d2] => { results := [.lit (.bool true)], args := [d1, d2] }
  | _ => none }
def recordSealsRow : OpenClaim := { program := "ytffnafikegakcaagreatdoor", sum := "90e4eca7e4a5367c4efc36f2e34c3e5f31c6ae96e76e0c71b30af349aeca8c1b", func := "cresset/cressetlaw15.RecordSeals", spec := "recordSeals", inPlace := ["internal/abi.NoEscape", "internal/bytealg.MakeNoZero", "internal/bytealg.IndexByteString", "internal/bytealg.IndexString"], named := ["cresset/aes.squares", "unicode/utf8.first", "unicode/utf8.acceptRanges", "internal/bytealg.MaxLen"], apart := false, laid := [("unicode/utf8.acceptRanges", laid_unicode_utf8_acceptRanges), ("cresset/aes.squares", laid_cresset_aes_squares), ("unicode/utf8.first", laid_unicode_utf8_first)] }
def RecordSealsSaid : Prop := recordSealsRow.holds Tryz.pinned (OpenSpec.ofChange recordSealsSpec)

/-- ITS FALSE NEIGHBOUR: 'it returns false'. Refute it at one input. -/
def recordSealsWrong : ChangeSpec := { name := "recordSeals", fn := fun _ => fun
  | [d1, d2] => { results := [.lit (.bool false)], args := [d1, d2] }
  | _ => none }
def RecordSealsWrongFalsely : Prop := recordSealsRow.holds Tryz.pinned (OpenSpec.ofChange recordSealsWrong)

/-- 'cressetlaw15.RecordRaw': WHATEVER THE INPUT: true; the input reads as it did. -/
def recordRawSpec : ChangeSpec := { name := "recordRaw", fn := fun _ => fun
  | [d1, d2] => { results := [.lit (.bool true)], args := [d1, d2] }
  | _ => none }
def recordRawRow : OpenClaim := { program := "ytffnafikegakcaagreatdoor", sum := "90e4eca7e4a5367c4efc36f2e34c3e5f31c6ae96e76e0c71b30af349aeca8c1b", func := "cresset/cressetlaw15.RecordRaw", spec := "recordRaw", inPlace := ["internal/abi.NoEscape", "internal/bytealg.MakeNoZero", "internal/bytealg.IndexByteString", "internal/bytealg.IndexString"], named := ["cresset/aes.squares", "unicode/utf8.first", "unicode/utf8.acceptRanges", "internal/bytealg.MaxLen"], apart := false, laid := [("unicode/utf8.acceptRanges", laid_unicode_utf8_acceptRanges), ("cresset/aes.squares", laid_cresset_aes_squares), ("unicode/utf8.first", laid_unicode_utf8_first)] }
def RecordRawSaid : Prop := recordRawRow.holds Tryz.pinned (OpenSpec.ofChange recordRawSpec)

/-- ITS FALSE NEIGHBOUR: 'it returns false'. Refute it at one input. -/
def recordRawWrong : ChangeSpec := { name := "recordRaw", fn := fun _ => fun
  | [d1, d2] => { results := [.lit (.bool false)], args := [d1, d2] }
  | _ => none }
def RecordRawWrongFalsely : Prop := recordRawRow.holds Tryz.pinned (OpenSpec.ofChange recordRawWrong)

/-- 'cressetlaw15.RecordBack': WHATEVER THE INPUT: true; the input reads as it did. -/
def recordBackSpec : ChangeSpec := { name := "recordBack", fn := fun _ => fun
  | [d1, d2, d3] => { results := [.lit (.bool true)], args := [d1, d2, d3] }
  | _ => none }
def recordBackRow : OpenClaim := { program := "ytffnafikegakcaagreatdoor", sum := "90e4eca7e4a5367c4efc36f2e34c3e5f31c6ae96e76e0c71b30af349aeca8c1b", func := "cresset/cressetlaw15.RecordBack", spec := "recordBack", inPlace := ["internal/abi.NoEscape", "internal/bytealg.MakeNoZero", "internal/bytealg.IndexByteString", "internal/bytealg.IndexString"], named := ["cresset/aes.squares", "unicode/utf8.first", "unicode/utf8.acceptRanges", "internal/bytealg.MaxLen"], apart := false, laid := [("unicode/utf8.acceptRanges", laid_unicode_utf8_acceptRanges), ("cresset/aes.squares", laid_cresset_aes_squares), ("unicode/utf8.first", laid_unicode_utf8_first)] }
def RecordBackSaid : Prop := recordBackRow.holds Tryz.pinned (OpenSpec.ofChange recordBackSpec)

/-- ITS FALSE NEIGHBOUR: 'it returns false'. Refute it at one input. -/
def recordBackWrong : ChangeSpec := { name := "recordBack", fn := fun _ => fun
  | [d1, d2, d3] => { results := [.lit (.bool false)], args := [d1, d2, d3] }
  | _ => none }
def RecordBackWrongFalsely : Prop := recordBackRow.holds Tryz.pinned (OpenSpec.ofChange recordBackWrong)

/-- 'cressetlaw15.RecordNil': WHATEVER THE INPUT: true; the input reads as it did. -/
def recordNilSpec : ChangeSpec := { name := "recordNil", fn := fun _ => fun
  | [d1, d2] => { results := [.lit (.bool true)], args := [d1, d2] }
  | _ => none }
def recordNilRow : OpenClaim := { program := "ytffnafikegakcaagreatdoor", sum := "90e4eca7e4a5367c4efc36f2e34c3e5f31c6ae96e76e0c71b30af349aeca8c1b", func := "cresset/cressetlaw15.RecordNil", spec := "recordNil", inPlace := ["internal/abi.NoEscape", "internal/bytealg.MakeNoZero", "internal/bytealg.IndexByteString", "internal/bytealg.IndexString"], named := ["cresset/aes.squares", "unicode/utf8.first", "unicode/utf8.acceptRanges", "internal/bytealg.MaxLen"], apart := false, laid := [("unicode/utf8.acceptRanges", laid_unicode_utf8_acceptRanges), ("cresset/aes.squares", laid_cresset_aes_squares), ("unicode/utf8.first", laid_unicode_utf8_first)] }
def RecordNilSaid : Prop := recordNilRow.holds Tryz.pinned (OpenSpec.ofChange recordNilSpec)

/-- ITS FALSE NEIGHBOUR: 'it returns false'. Refute it at one input. -/
def recordNilWrong : ChangeSpec := { name := "recordNil", fn := fun _ => fun
  | [d1, d2] => { results := [.lit (.bool false)], args := [d1, d2] }
  | _ => none }
def RecordNilWrongFalsely : Prop := recordNilRow.holds Tryz.pinned (OpenSpec.ofChange recordNilWrong)

/-- 'cressetlaw15.RecordSizes': WHATEVER THE INPUT: true; the input reads as it did. -/
def recordSizesSpec : ChangeSpec := { name := "recordSizes", fn := fun _ => fun
  | [d1, d2, d3] => { results := [.lit (.bool true)], args := [d1, d2, d3] }
  | _ => none }
def recordSizesRow : OpenClaim := { program := "ytffnafikegakcaagreatdoor", sum := "90e4eca7e4a5367c4efc36f2e34c3e5f31c6ae96e76e0c71b30af349aeca8c1b", func := "cresset/cressetlaw15.RecordSizes", spec := "recordSizes", inPlace := ["internal/abi.NoEscape", "internal/bytealg.MakeNoZero"], named := ["cresset/aes.squares"], apart := false, laid := [("cresset/aes.squares", laid_cresset_aes_squares)] }
def RecordSizesSaid : Prop := recordSizesRow.holds Tryz.pinned (OpenSpec.ofChange recordSizesSpec)

/-- ITS FALSE NEIGHBOUR: 'it returns false'. Refute it at one input. -/
def recordSizesWrong : ChangeSpec := { name := "recordSizes", fn := fun _ => fun
  | [d1, d2, d3] => { results := [.lit (.bool false)], args := [d1, d2, d3] }
  | _ => none }
def RecordSizesWrongFalsely : Prop := recordSizesRow.holds Tryz.pinned (OpenSpec.ofChange recordSizesWrong)

/- THE SECOND FORM. 'bulk': how many values and letters a reading holds, each counted each time it is reached (what is shared counts as often as it is met; a slice's spare places count too). A statement '..UptoSaid' is the law's where the arguments, and the package variables that the reading takes, are together of bulk at most 1048576: NARROWER than '..Said'. Prove '..Said' where nothing that the law and all that it calls make is longer than what came in: it says more and counts as full. Else prove '..UptoSaid'. A law counts once. -/
mutual
def uptoBulk {H : Type} : DataW H → Nat
  | .lit (.string bytes) => bytes.length + 1
  | .lit _ => 1
  | .nil => 1
  | .ptr d => uptoBulk d + 1
  | .slice elems spare => uptoBulkAll elems + uptoBulkAll spare + 1
  | .agg parts => uptoBulkAll parts + 1
  | .iface _ d => uptoBulk d + 1
  | .map entries => uptoBulkEntries entries + 1
  | .held _ => 1
def uptoBulkAll {H : Type} : List (DataW H) → Nat
  | [] => 0
  | d :: r => uptoBulk d + uptoBulkAll r
def uptoBulkEntries {H : Type} : List (Lit × DataW H) → Nat
  | [] => 0
  | x :: r => uptoBulkEntry x + uptoBulkEntries r
def uptoBulkEntry {H : Type} : Lit × DataW H → Nat
  | (.string bytes, d) => bytes.length + uptoBulk d + 1
  | (_, d) => uptoBulk d + 1
 end
def uptoSmall : (H : Type) → List (DataW H) → Bool := fun _ ds => decide (uptoBulkAll ds ≤ 1048576)
def OpenSpec.upto (s : _root_.Go.ChangeSpec) : _root_.Go.OpenSpec := { _root_.Go.OpenSpec.ofChange s with cond := some uptoSmall }

/-- 'cressetlaw15.RecordSeals', WHERE WHAT IT READS IS OF BULK AT MOST 1048576: true; the input reads as it did. -/
def recordSealsUptoRow : OpenClaim := { program := "ytffnafikegakcaagreatdoor", sum := "90e4eca7e4a5367c4efc36f2e34c3e5f31c6ae96e76e0c71b30af349aeca8c1b", func := "cresset/cressetlaw15.RecordSeals", spec := "recordSeals", inPlace := ["internal/abi.NoEscape", "internal/bytealg.MakeNoZero", "internal/bytealg.IndexByteString", "internal/bytealg.IndexString"], named := ["cresset/aes.squares", "unicode/utf8.first", "unicode/utf8.acceptRanges", "internal/bytealg.MaxLen"], apart := false, laid := [("unicode/utf8.acceptRanges", laid_unicode_utf8_acceptRanges), ("cresset/aes.squares", laid_cresset_aes_squares), ("unicode/utf8.first", laid_unicode_utf8_first)], narrowed := true }
def RecordSealsUptoSaid : Prop := recordSealsUptoRow.holds Tryz.pinned (OpenSpec.upto recordSealsSpec)

/-- 'cressetlaw15.RecordRaw', WHERE WHAT IT READS IS OF BULK AT MOST 1048576: true; the input reads as it did. -/
def recordRawUptoRow : OpenClaim := { program := "ytffnafikegakcaagreatdoor", sum := "90e4eca7e4a5367c4efc36f2e34c3e5f31c6ae96e76e0c71b30af349aeca8c1b", func := "cresset/cressetlaw15.RecordRaw", spec := "recordRaw", inPlace := ["internal/abi.NoEscape", "internal/bytealg.MakeNoZero", "internal/bytealg.IndexByteString", "internal/bytealg.IndexString"], named := ["cresset/aes.squares", "unicode/utf8.first", "unicode/utf8.acceptRanges", "internal/bytealg.MaxLen"], apart := false, laid := [("unicode/utf8.acceptRanges", laid_unicode_utf8_acceptRanges), ("cresset/aes.squares", laid_cresset_aes_squares), ("unicode/utf8.first", laid_unicode_utf8_first)], narrowed := true }
def RecordRawUptoSaid : Prop := recordRawUptoRow.holds Tryz.pinned (OpenSpec.upto recordRawSpec)

/-- 'cressetlaw15.RecordBack', WHERE WHAT IT READS IS OF BULK AT MOST 1048576: true; the input reads as it did. -/
def recordBackUptoRow : OpenClaim := { program := "ytffnafikegakcaagreatdoor", sum := "90e4eca7e4a5367c4efc36f2e34c3e5f31c6ae96e76e0c71b30af349aeca8c1b", func := "cresset/cressetlaw15.RecordBack", spec := "recordBack", inPlace := ["internal/abi.NoEscape", "internal/bytealg.MakeNoZero", "internal/bytealg.IndexByteString", "internal/bytealg.IndexString"], named := ["cresset/aes.squares", "unicode/utf8.first", "unicode/utf8.acceptRanges", "internal/bytealg.MaxLen"], apart := false, laid := [("unicode/utf8.acceptRanges", laid_unicode_utf8_acceptRanges), ("cresset/aes.squares", laid_cresset_aes_squares), ("unicode/utf8.first", laid_unicode_utf8_first)], narrowed := true }
def RecordBackUptoSaid : Prop := recordBackUptoRow.holds Tryz.pinned (OpenSpec.upto recordBackSpec)

/-- 'cressetlaw15.RecordNil', WHERE WHAT IT READS IS OF BULK AT MOST 1048576: true; the input reads as it did. -/
def recordNilUptoRow : OpenClaim := { program := "ytffnafikegakcaagreatdoor", sum := "90e4eca7e4a5367c4efc36f2e34c3e5f31c6ae96e76e0c71b30af349aeca8c1b", func := "cresset/cressetlaw15.RecordNil", spec := "recordNil", inPlace := ["internal/abi.NoEscape", "internal/bytealg.MakeNoZero", "internal/bytealg.IndexByteString", "internal/bytealg.IndexString"], named := ["cresset/aes.squares", "unicode/utf8.first", "unicode/utf8.acceptRanges", "internal/bytealg.MaxLen"], apart := false, laid := [("unicode/utf8.acceptRanges", laid_unicode_utf8_acceptRanges), ("cresset/aes.squares", laid_cresset_aes_squares), ("unicode/utf8.first", laid_unicode_utf8_first)], narrowed := true }
def RecordNilUptoSaid : Prop := recordNilUptoRow.holds Tryz.pinned (OpenSpec.upto recordNilSpec)

/-- 'cressetlaw15.RecordSizes', WHERE WHAT IT READS IS OF BULK AT MOST 1048576: true; the input reads as it did. -/
def recordSizesUptoRow : OpenClaim := { program := "ytffnafikegakcaagreatdoor", sum := "90e4eca7e4a5367c4efc36f2e34c3e5f31c6ae96e76e0c71b30af349aeca8c1b", func := "cresset/cressetlaw15.RecordSizes", spec := "recordSizes", inPlace := ["internal/abi.NoEscape", "internal/bytealg.MakeNoZero"], named := ["cresset/aes.squares"], apart := false, laid := [("cresset/aes.squares", laid_cresset_aes_squares)], narrowed := true }
def RecordSizesUptoSaid : Prop := recordSizesUptoRow.holds Tryz.pinned (OpenSpec.upto recordSizesSpec)

end Rows
end Go.Proofs.YtffnafikegakcaaGreatDoor
