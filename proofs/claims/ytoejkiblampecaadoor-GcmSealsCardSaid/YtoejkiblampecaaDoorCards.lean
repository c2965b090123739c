/-
  DERIVED. GIVEN WITH THE SEED: THE CARDS: each row of YtoejkiblampecaaDoorRows.lean that lists a variable, with what it lists TIED to the program's text (the seventh form; the later family's looks); each row that meets fmt, with fmt's text TOLD by the authors' own Lean function (tested against real Go, not proved from fmt's source: count such statements apart). THE CARD IS WHAT COUNTS. Prove the row's statement (the work); the ties are given (YtoejkiblampecaaDoorTie.lean); close each card by the builder's one call (the guide's Derived/Test/ToyasCard.lean, 'card_holds'). Laid BY PROGRAM, IN A SANDBOX (cutbox-door.mjs). By AI agents, Wed Nov 11 2026. No macro, syntax, notation, axiom, sorry.
-/
import Derived.Test.YtoejkiblampecaaDoorRows
import GoSem.ClaimSeven
namespace Go.Proofs.YtoejkiblampecaaDoor
namespace Rows

/-- THE TIED CARD OF 'cressetlaw06.GcmHashes'. -/
def gcmHashesCard : Claim7 := { stood := { row := gcmHashesRow, standIns := [], harness := (true, "1920fc86ffd897d46695fa6bd7019bebb46195e78957edda70977a529471b633"), looks := false }, kinds := [], alts := [], laidByText := true, laidKinds := [.data], laidTests := true, laidLooks := .later }
def GcmHashesCardSaid : Prop := Claim7.holds Tryd.pinned (.plain (OpenSpec.ofChange gcmHashesSpec)) gcmHashesCard

/-- THE TIED CARD OF 'cressetlaw06.GcmSeals'. -/
def gcmSealsCard : Claim7 := { stood := { row := gcmSealsRow, standIns := [], harness := (true, "1920fc86ffd897d46695fa6bd7019bebb46195e78957edda70977a529471b633"), looks := false }, kinds := [], alts := [], laidByText := true, laidKinds := [.data], laidTests := true, laidLooks := .later }
def GcmSealsCardSaid : Prop := Claim7.holds Tryd.pinned (.plain (OpenSpec.ofChange gcmSealsSpec)) gcmSealsCard

/-- THE TIED CARD OF 'cressetlaw06.GcmOpens'. -/
def gcmOpensCard : Claim7 := { stood := { row := gcmOpensRow, standIns := [], harness := (true, "1920fc86ffd897d46695fa6bd7019bebb46195e78957edda70977a529471b633"), looks := false }, kinds := [], alts := [], laidByText := true, laidKinds := [.data], laidTests := true, laidLooks := .later }
def GcmOpensCardSaid : Prop := Claim7.holds Tryd.pinned (.plain (OpenSpec.ofChange gcmOpensSpec)) gcmOpensCard

/-- THE TIED CARD OF 'cressetlaw06.GcmBack'. -/
def gcmBackCard : Claim7 := { stood := { row := gcmBackRow, standIns := [], harness := (true, "1920fc86ffd897d46695fa6bd7019bebb46195e78957edda70977a529471b633"), looks := false }, kinds := [], alts := [], laidByText := true, laidKinds := [.data], laidTests := true, laidLooks := .later }
def GcmBackCardSaid : Prop := Claim7.holds Tryd.pinned (.plain (OpenSpec.ofChange gcmBackSpec)) gcmBackCard

/-- THE TIED CARD OF 'cressetlaw06.GcmAdds'. -/
def gcmAddsCard : Claim7 := { stood := { row := gcmAddsRow, standIns := [], harness := (true, "1920fc86ffd897d46695fa6bd7019bebb46195e78957edda70977a529471b633"), looks := false }, kinds := [], alts := [], laidByText := true, laidKinds := [.data], laidTests := true, laidLooks := .later }
def GcmAddsCardSaid : Prop := Claim7.holds Tryd.pinned (.plain (OpenSpec.ofChange gcmAddsSpec)) gcmAddsCard

/-- THE TIED CARD OF 'cressetlaw06.GcmEmpty'. -/
def gcmEmptyCard : Claim7 := { stood := { row := gcmEmptyRow, standIns := [], harness := (true, "1920fc86ffd897d46695fa6bd7019bebb46195e78957edda70977a529471b633"), looks := false }, kinds := [], alts := [], laidByText := true, laidKinds := [.data], laidTests := true, laidLooks := .later }
def GcmEmptyCardSaid : Prop := Claim7.holds Tryd.pinned (.plain (OpenSpec.ofChange gcmEmptySpec)) gcmEmptyCard

/-- THE SECOND FORM's CARD OF 'cressetlaw06.GcmHashes'. -/
def gcmHashesUptoCard : Claim7 := { stood := { row := gcmHashesUptoRow, standIns := [], harness := (true, "1920fc86ffd897d46695fa6bd7019bebb46195e78957edda70977a529471b633"), looks := false }, kinds := [], alts := [], laidByText := true, laidKinds := [.data], laidTests := true, laidLooks := .later }
def GcmHashesUptoCardSaid : Prop := Claim7.holds Tryd.pinned (.plain (OpenSpec.upto gcmHashesSpec)) gcmHashesUptoCard

/-- THE SECOND FORM's CARD OF 'cressetlaw06.GcmSeals'. -/
def gcmSealsUptoCard : Claim7 := { stood := { row := gcmSealsUptoRow, standIns := [], harness := (true, "1920fc86ffd897d46695fa6bd7019bebb46195e78957edda70977a529471b633"), looks := false }, kinds := [], alts := [], laidByText := true, laidKinds := [.data], laidTests := true, laidLooks := .later }
def GcmSealsUptoCardSaid : Prop := Claim7.holds Tryd.pinned (.plain (OpenSpec.upto gcmSealsSpec)) gcmSealsUptoCard

/-- THE SECOND FORM's CARD OF 'cressetlaw06.GcmOpens'. -/
def gcmOpensUptoCard : Claim7 := { stood := { row := gcmOpensUptoRow, standIns := [], harness := (true, "1920fc86ffd897d46695fa6bd7019bebb46195e78957edda70977a529471b633"), looks := false }, kinds := [], alts := [], laidByText := true, laidKinds := [.data], laidTests := true, laidLooks := .later }
def GcmOpensUptoCardSaid : Prop := Claim7.holds Tryd.pinned (.plain (OpenSpec.upto gcmOpensSpec)) gcmOpensUptoCard

/-- THE SECOND FORM's CARD OF 'cressetlaw06.GcmBack'. -/
def gcmBackUptoCard : Claim7 := { stood := { row := gcmBackUptoRow, standIns := [], harness := (true, "1920fc86ffd897d46695fa6bd7019bebb46195e78957edda70977a529471b633"), looks := false }, kinds := [], alts := [], laidByText := true, laidKinds := [.data], laidTests := true, laidLooks := .later }
def GcmBackUptoCardSaid : Prop := Claim7.holds Tryd.pinned (.plain (OpenSpec.upto gcmBackSpec)) gcmBackUptoCard

/-- THE SECOND FORM's CARD OF 'cressetlaw06.GcmAdds'. -/
def gcmAddsUptoCard : Claim7 := { stood := { row := gcmAddsUptoRow, standIns := [], harness := (true, "1920fc86ffd897d46695fa6bd7019bebb46195e78957edda70977a529471b633"), looks := false }, kinds := [], alts := [], laidByText := true, laidKinds := [.data], laidTests := true, laidLooks := .later }
def GcmAddsUptoCardSaid : Prop := Claim7.holds Tryd.pinned (.plain (OpenSpec.upto gcmAddsSpec)) gcmAddsUptoCard

/-- THE SECOND FORM's CARD OF 'cressetlaw06.GcmEmpty'. -/
def gcmEmptyUptoCard : Claim7 := { stood := { row := gcmEmptyUptoRow, standIns := [], harness := (true, "1920fc86ffd897d46695fa6bd7019bebb46195e78957edda70977a529471b633"), looks := false }, kinds := [], alts := [], laidByText := true, laidKinds := [.data], laidTests := true, laidLooks := .later }
def GcmEmptyUptoCardSaid : Prop := Claim7.holds Tryd.pinned (.plain (OpenSpec.upto gcmEmptySpec)) gcmEmptyUptoCard
end Rows
end Go.Proofs.YtoejkiblampecaaDoor
