/-
  DERIVED. GIVEN WITH THE SEED: THE CARDS: each row of YtffnafikegakcaaGreatDoorRows.lean that lists a variable, with what it lists TIED to the program's text (the seventh form; the later family's looks); each row that meets fmt, with fmt's text TOLD by the authors' own Lean function (tested against real Go, not proved from fmt's source: count such statements apart). THE CARD IS WHAT COUNTS. Prove the row's statement (the work); the ties are given (YtffnafikegakcaaGreatDoorTie.lean); close each card by the builder's one call (the guide's Derived/Test/ToyasCard.lean, 'card_holds'). Laid BY PROGRAM, IN A SANDBOX (cutbox-door.mjs). By AI agents, Wed Nov 11 2026. No macro, syntax, notation, axiom, sorry.
-/
import Derived.Test.YtffnafikegakcaaGreatDoorRows
import GoSem.ClaimSeven
namespace Go.Proofs.YtffnafikegakcaaGreatDoor
namespace Rows

/-- THE TIED CARD OF 'cressetlaw15.RecordSeals'. -/
def recordSealsCard : Claim7 := { stood := { row := recordSealsRow, standIns := [], harness := (true, "fde69174d6d408d6131d9502f858b52fb59510ff617c3c2862b0d153e04c42c2"), looks := false }, kinds := [], alts := [], laidByText := true, laidKinds := [.data, .data, .pinned], laidTests := true, laidLooks := .later }
def RecordSealsCardSaid : Prop := Claim7.holds Tryz.pinned (.plain (OpenSpec.ofChange recordSealsSpec)) recordSealsCard

/-- THE TIED CARD OF 'cressetlaw15.RecordRaw'. -/
def recordRawCard : Claim7 := { stood := { row := recordRawRow, standIns := [], harness := (true, "fde69174d6d408d6131d9502f858b52fb59510ff617c3c2862b0d153e04c42c2"), looks := false }, kinds := [], alts := [], laidByText := true, laidKinds := [.data, .data, .pinned], laidTests := true, laidLooks := .later }
def RecordRawCardSaid : Prop := Claim7.holds Tryz.pinned (.plain (OpenSpec.ofChange recordRawSpec)) recordRawCard

/-- THE TIED CARD OF 'cressetlaw15.RecordBack'. -/
def recordBackCard : Claim7 := { stood := { row := recordBackRow, standIns := [], harness := (true, "fde69174d6d408d6131d9502f858b52fb59510ff617c3c2862b0d153e04c42c2"), looks := false }, kinds := [], alts := [], laidByText := true, laidKinds := [.data, .data, .pinned], laidTests := true, laidLooks := .later }
def RecordBackCardSaid : Prop := Claim7.holds Tryz.pinned (.plain (OpenSpec.ofChange recordBackSpec)) recordBackCard

/-- THE TIED CARD OF 'cressetlaw15.RecordNil'. -/
def recordNilCard : Claim7 := { stood := { row := recordNilRow, standIns := [], harness := (true, "fde69174d6d408d6131d9502f858b52fb59510ff617c3c2862b0d153e04c42c2"), looks := false }, kinds := [], alts := [], laidByText := true, laidKinds := [.data, .data, .pinned], laidTests := true, laidLooks := .later }
def RecordNilCardSaid : Prop := Claim7.holds Tryz.pinned (.plain (OpenSpec.ofChange recordNilSpec)) recordNilCard

/-- THE TIED CARD OF 'cressetlaw15.RecordSizes'. -/
def recordSizesCard : Claim7 := { stood := { row := recordSizesRow, standIns := [], harness := (true, "fde69174d6d408d6131d9502f858b52fb59510ff617c3c2862b0d153e04c42c2"), looks := false }, kinds := [], alts := [], laidByText := true, laidKinds := [.data], laidTests := true, laidLooks := .later }
def RecordSizesCardSaid : Prop := Claim7.holds Tryz.pinned (.plain (OpenSpec.ofChange recordSizesSpec)) recordSizesCard

/-- THE SECOND FORM's CARD OF 'cressetlaw15.RecordSeals'. -/
def recordSealsUptoCard : Claim7 := { stood := { row := recordSealsUptoRow, standIns := [], harness := (true, "fde69174d6d408d6131d9502f858b52fb59510ff617c3c2862b0d153e04c42c2"), looks := false }, kinds := [], alts := [], laidByText := true, laidKinds := [.data, .data, .pinned], laidTests := true, laidLooks := .later }
def RecordSealsUptoCardSaid : Prop := Claim7.holds Tryz.pinned (.plain (OpenSpec.upto recordSealsSpec)) recordSealsUptoCard

/-- THE SECOND FORM's CARD OF 'cressetlaw15.RecordRaw'. -/
def recordRawUptoCard : Claim7 := { stood := { row := recordRawUptoRow, standIns := [], harness := (true, "fde69174d6d408d6131d9502f858b52fb59510ff617c3c2862b0d153e04c42c2"), looks := false }, kinds := [], alts := [], laidByText := true, laidKinds := [.data, .data, .pinned], laidTests := true, laidLooks := .later }
def RecordRawUptoCardSaid : Prop := Claim7.holds Tryz.pinned (.plain (OpenSpec.upto recordRawSpec)) recordRawUptoCard

/-- THE SECOND FORM's CARD OF 'cressetlaw15.RecordBack'. -/
def recordBackUptoCard : Claim7 := { stood := { row := recordBackUptoRow, standIns := [], harness := (true, "fde69174d6d408d6131d9502f858b52fb59510ff617c3c2862b0d153e04c42c2"), looks := false }, kinds := [], alts := [], laidByText := true, laidKinds := [.data, .data, .pinned], laidTests := true, laidLooks := .later }
def RecordBackUptoCardSaid : Prop := Claim7.holds Tryz.pinned (.plain (OpenSpec.upto recordBackSpec)) recordBackUptoCard

/-- THE SECOND FORM's CARD OF 'cressetlaw15.RecordNil'. -/
def recordNilUptoCard : Claim7 := { stood := { row := recordNilUptoRow, standIns := [], harness := (true, "fde69174d6d408d6131d9502f858b52fb59510ff617c3c2862b0d153e04c42c2"), looks := false }, kinds := [], alts := [], laidByText := true, laidKinds := [.data, .data, .pinned], laidTests := true, laidLooks := .later }
def RecordNilUptoCardSaid : Prop := Claim7.holds Tryz.pinned (.plain (OpenSpec.upto recordNilSpec)) recordNilUptoCard

/-- THE SECOND FORM's CARD OF 'cressetlaw15.RecordSizes'. -/
def recordSizesUptoCard : Claim7 := { stood := { row := recordSizesUptoRow, standIns := [], harness := (true, "fde69174d6d408d6131d9502f858b52fb59510ff617c3c2862b0d153e04c42c2"), looks := false }, kinds := [], alts := [], laidByText := true, laidKinds := [.data], laidTests := true, laidLooks := .later }
def RecordSizesUptoCardSaid : Prop := Claim7.holds Tryz.pinned (.plain (OpenSpec.upto recordSizesSpec)) recordSizesUptoCard
end Rows
end Go.Proofs.YtffnafikegakcaaGreatDoor
