/-
  DERIVED. GIVEN WITH THE SEED: THE CARDS: each row of YteomfleofeeofaaGreatDoorRows.lean that lists a variable, with what it lists TIED to the program's text (the seventh form; the later family's looks); each row that meets fmt, with fmt's text TOLD by the authors' own Lean function (tested against real Go, not proved from fmt's source: count such statements apart). THE CARD IS WHAT COUNTS. Prove the row's statement (the work); the ties are given (YteomfleofeeofaaGreatDoorTie.lean); close each card by the builder's one call (the guide's Derived/Test/ToyasCard.lean, 'card_holds'). Laid BY PROGRAM, IN A SANDBOX (cutbox-door.mjs). By AI agents, Wed Nov 11 2026. No macro, syntax, notation, axiom, sorry.
-/
import Derived.Test.YteomfleofeeofaaGreatDoorRows
import GoSem.ClaimSeven
namespace Go.Proofs.YteomfleofeeofaaGreatDoor
namespace Rows

/-- THE TIED CARD OF 'cressetlaw14.CertTimes'. -/
def certTimesCard : Claim7 := { stood := { row := certTimesRow, standIns := [], harness := (true, "1174da3ad372fa4917b5909d65d4b34432786eb3e50052eae43ce2e87ffcd1cd"), looks := false }, kinds := [], alts := [], laidByText := true, laidKinds := [.data, .data, .data, .data, .wider, .data, .data], laidTests := true, laidLooks := .later }
def CertTimesCardSaid : Prop := Claim7.holds Tryz.pinned (.plain (OpenSpec.ofChange certTimesSpec)) certTimesCard

/-- THE TIED CARD OF 'cressetlaw14.CertMakes'. -/
def certMakesCard : Claim7 := { stood := { row := certMakesRow, standIns := [], harness := (true, "1174da3ad372fa4917b5909d65d4b34432786eb3e50052eae43ce2e87ffcd1cd"), looks := false }, kinds := [], alts := [], laidByText := true, laidKinds := [.data, .data, .data, .data, .wider, .data, .data], laidTests := true, laidLooks := .later }
def CertMakesCardSaid : Prop := Claim7.holds Tryz.pinned (.plain (OpenSpec.ofChange certMakesSpec)) certMakesCard

/-- THE TIED CARD OF 'cressetlaw14.CertReads'. -/
def certReadsCard : Claim7 := { stood := { row := certReadsRow, standIns := [], harness := (true, "1174da3ad372fa4917b5909d65d4b34432786eb3e50052eae43ce2e87ffcd1cd"), looks := false }, kinds := [], alts := [], laidByText := true, laidKinds := [.data, .data, .data, .data, .wider, .data, .data], laidTests := true, laidLooks := .later }
def CertReadsCardSaid : Prop := Claim7.holds Tryz.pinned (.plain (OpenSpec.ofChange certReadsSpec)) certReadsCard

/-- THE TIED CARD OF 'cressetlaw14.CertAllows'. -/
def certAllowsCard : Claim7 := { stood := { row := certAllowsRow, standIns := [], harness := (true, "1174da3ad372fa4917b5909d65d4b34432786eb3e50052eae43ce2e87ffcd1cd"), looks := false }, kinds := [], alts := [], laidByText := true, laidKinds := [.data, .data, .data, .data, .wider, .data, .data], laidTests := true, laidLooks := .later }
def CertAllowsCardSaid : Prop := Claim7.holds Tryz.pinned (.plain (OpenSpec.ofChange certAllowsSpec)) certAllowsCard

/-- THE TIED CARD OF 'cressetlaw14.CertBack'. -/
def certBackCard : Claim7 := { stood := { row := certBackRow, standIns := [], harness := (true, "1174da3ad372fa4917b5909d65d4b34432786eb3e50052eae43ce2e87ffcd1cd"), looks := false }, kinds := [], alts := [], laidByText := true, laidKinds := [.data, .data, .data, .data, .wider, .data, .data], laidTests := true, laidLooks := .later }
def CertBackCardSaid : Prop := Claim7.holds Tryz.pinned (.plain (OpenSpec.ofChange certBackSpec)) certBackCard

/-- THE TIED CARD OF 'cressetlaw14.CertRises'. -/
def certRisesCard : Claim7 := { stood := { row := certRisesRow, standIns := [], harness := (true, "1174da3ad372fa4917b5909d65d4b34432786eb3e50052eae43ce2e87ffcd1cd"), looks := false }, kinds := [], alts := [], laidByText := true, laidKinds := [.data, .data, .data, .data, .wider, .data, .data], laidTests := true, laidLooks := .later }
def CertRisesCardSaid : Prop := Claim7.holds Tryz.pinned (.plain (OpenSpec.ofChange certRisesSpec)) certRisesCard

/-- THE TIED CARD OF 'cressetlaw14.CertLets'. -/
def certLetsCard : Claim7 := { stood := { row := certLetsRow, standIns := [], harness := (true, "1174da3ad372fa4917b5909d65d4b34432786eb3e50052eae43ce2e87ffcd1cd"), looks := false }, kinds := [], alts := [], laidByText := true, laidKinds := [.data, .data, .data, .data, .wider, .data, .data], laidTests := true, laidLooks := .later }
def CertLetsCardSaid : Prop := Claim7.holds Tryz.pinned (.plain (OpenSpec.ofChange certLetsSpec)) certLetsCard

/-- THE SECOND FORM's CARD OF 'cressetlaw14.CertTimes'. -/
def certTimesUptoCard : Claim7 := { stood := { row := certTimesUptoRow, standIns := [], harness := (true, "1174da3ad372fa4917b5909d65d4b34432786eb3e50052eae43ce2e87ffcd1cd"), looks := false }, kinds := [], alts := [], laidByText := true, laidKinds := [.data, .data, .data, .data, .wider, .data, .data], laidTests := true, laidLooks := .later }
def CertTimesUptoCardSaid : Prop := Claim7.holds Tryz.pinned (.plain (OpenSpec.upto certTimesSpec)) certTimesUptoCard

/-- THE SECOND FORM's CARD OF 'cressetlaw14.CertMakes'. -/
def certMakesUptoCard : Claim7 := { stood := { row := certMakesUptoRow, standIns := [], harness := (true, "1174da3ad372fa4917b5909d65d4b34432786eb3e50052eae43ce2e87ffcd1cd"), looks := false }, kinds := [], alts := [], laidByText := true, laidKinds := [.data, .data, .data, .data, .wider, .data, .data], laidTests := true, laidLooks := .later }
def CertMakesUptoCardSaid : Prop := Claim7.holds Tryz.pinned (.plain (OpenSpec.upto certMakesSpec)) certMakesUptoCard

/-- THE SECOND FORM's CARD OF 'cressetlaw14.CertReads'. -/
def certReadsUptoCard : Claim7 := { stood := { row := certReadsUptoRow, standIns := [], harness := (true, "1174da3ad372fa4917b5909d65d4b34432786eb3e50052eae43ce2e87ffcd1cd"), looks := false }, kinds := [], alts := [], laidByText := true, laidKinds := [.data, .data, .data, .data, .wider, .data, .data], laidTests := true, laidLooks := .later }
def CertReadsUptoCardSaid : Prop := Claim7.holds Tryz.pinned (.plain (OpenSpec.upto certReadsSpec)) certReadsUptoCard

/-- THE SECOND FORM's CARD OF 'cressetlaw14.CertAllows'. -/
def certAllowsUptoCard : Claim7 := { stood := { row := certAllowsUptoRow, standIns := [], harness := (true, "1174da3ad372fa4917b5909d65d4b34432786eb3e50052eae43ce2e87ffcd1cd"), looks := false }, kinds := [], alts := [], laidByText := true, laidKinds := [.data, .data, .data, .data, .wider, .data, .data], laidTests := true, laidLooks := .later }
def CertAllowsUptoCardSaid : Prop := Claim7.holds Tryz.pinned (.plain (OpenSpec.upto certAllowsSpec)) certAllowsUptoCard

/-- THE SECOND FORM's CARD OF 'cressetlaw14.CertBack'. -/
def certBackUptoCard : Claim7 := { stood := { row := certBackUptoRow, standIns := [], harness := (true, "1174da3ad372fa4917b5909d65d4b34432786eb3e50052eae43ce2e87ffcd1cd"), looks := false }, kinds := [], alts := [], laidByText := true, laidKinds := [.data, .data, .data, .data, .wider, .data, .data], laidTests := true, laidLooks := .later }
def CertBackUptoCardSaid : Prop := Claim7.holds Tryz.pinned (.plain (OpenSpec.upto certBackSpec)) certBackUptoCard

/-- THE SECOND FORM's CARD OF 'cressetlaw14.CertRises'. -/
def certRisesUptoCard : Claim7 := { stood := { row := certRisesUptoRow, standIns := [], harness := (true, "1174da3ad372fa4917b5909d65d4b34432786eb3e50052eae43ce2e87ffcd1cd"), looks := false }, kinds := [], alts := [], laidByText := true, laidKinds := [.data, .data, .data, .data, .wider, .data, .data], laidTests := true, laidLooks := .later }
def CertRisesUptoCardSaid : Prop := Claim7.holds Tryz.pinned (.plain (OpenSpec.upto certRisesSpec)) certRisesUptoCard

/-- THE SECOND FORM's CARD OF 'cressetlaw14.CertLets'. -/
def certLetsUptoCard : Claim7 := { stood := { row := certLetsUptoRow, standIns := [], harness := (true, "1174da3ad372fa4917b5909d65d4b34432786eb3e50052eae43ce2e87ffcd1cd"), looks := false }, kinds := [], alts := [], laidByText := true, laidKinds := [.data, .data, .data, .data, .wider, .data, .data], laidTests := true, laidLooks := .later }
def CertLetsUptoCardSaid : Prop := Claim7.holds Tryz.pinned (.plain (OpenSpec.upto certLetsSpec)) certLetsUptoCard
end Rows
end Go.Proofs.YteomfleofeeofaaGreatDoor
