/-
  DERIVED. GIVEN WITH THE SEED: THE CARDS: each row of YtfidcdkoggfjaaaDoorRows.lean that lists a variable, with what it lists TIED to the program's text (the seventh form; the later family's looks); each row that meets fmt, with fmt's text TOLD by the authors' own Lean function (tested against real Go, not proved from fmt's source: count such statements apart). THE CARD IS WHAT COUNTS. Prove the row's statement (the work); the ties are given (YtfidcdkoggfjaaaDoorTie.lean); close each card by the builder's one call (the guide's Derived/Test/ToyasCard.lean, 'card_holds'). Laid BY PROGRAM, IN A SANDBOX (cutbox-door.mjs). By AI agents, Wed Nov 11 2026. No macro, syntax, notation, axiom, sorry.
-/
import Derived.Test.YtfidcdkoggfjaaaDoorRows
import GoSem.ClaimSeven
namespace Go.Proofs.YtfidcdkoggfjaaaDoor
namespace Rows

/-- THE TIED CARD OF 'cressetlaw08.FieldTakes'. -/
def fieldTakesCard : Claim7 := { stood := { row := fieldTakesRow, standIns := [], harness := (true, "dba20598ad203cc8d4eae559620b14cd2e22259d0cd38305137873b869c887c5"), looks := false }, kinds := [], alts := [], laidByText := true, laidKinds := [.data], laidTests := true, laidLooks := .later }
def FieldTakesCardSaid : Prop := Claim7.holds Tryd.pinned (.plain (OpenSpec.ofChange fieldTakesSpec)) fieldTakesCard

/-- THE TIED CARD OF 'cressetlaw08.FieldAdds'. -/
def fieldAddsCard : Claim7 := { stood := { row := fieldAddsRow, standIns := [], harness := (true, "dba20598ad203cc8d4eae559620b14cd2e22259d0cd38305137873b869c887c5"), looks := false }, kinds := [], alts := [], laidByText := true, laidKinds := [.data], laidTests := true, laidLooks := .later }
def FieldAddsCardSaid : Prop := Claim7.holds Tryd.pinned (.plain (OpenSpec.ofChange fieldAddsSpec)) fieldAddsCard

/-- THE TIED CARD OF 'cressetlaw08.FieldMuls'. -/
def fieldMulsCard : Claim7 := { stood := { row := fieldMulsRow, standIns := [], harness := (true, "dba20598ad203cc8d4eae559620b14cd2e22259d0cd38305137873b869c887c5"), looks := false }, kinds := [], alts := [], laidByText := true, laidKinds := [.data], laidTests := true, laidLooks := .later }
def FieldMulsCardSaid : Prop := Claim7.holds Tryd.pinned (.plain (OpenSpec.ofChange fieldMulsSpec)) fieldMulsCard

/-- THE TIED CARD OF 'cressetlaw08.FieldInverts'. -/
def fieldInvertsCard : Claim7 := { stood := { row := fieldInvertsRow, standIns := [], harness := (true, "dba20598ad203cc8d4eae559620b14cd2e22259d0cd38305137873b869c887c5"), looks := false }, kinds := [], alts := [], laidByText := true, laidKinds := [.data], laidTests := true, laidLooks := .later }
def FieldInvertsCardSaid : Prop := Claim7.holds Tryd.pinned (.plain (OpenSpec.ofChange fieldInvertsSpec)) fieldInvertsCard

/-- THE TIED CARD OF 'cressetlaw08.FieldRoots'. -/
def fieldRootsCard : Claim7 := { stood := { row := fieldRootsRow, standIns := [], harness := (true, "dba20598ad203cc8d4eae559620b14cd2e22259d0cd38305137873b869c887c5"), looks := false }, kinds := [], alts := [], laidByText := true, laidKinds := [.data], laidTests := true, laidLooks := .later }
def FieldRootsCardSaid : Prop := Claim7.holds Tryd.pinned (.plain (OpenSpec.ofChange fieldRootsSpec)) fieldRootsCard

/-- THE TIED CARD OF 'cressetlaw08.FieldLaws'. -/
def fieldLawsCard : Claim7 := { stood := { row := fieldLawsRow, standIns := [], harness := (true, "dba20598ad203cc8d4eae559620b14cd2e22259d0cd38305137873b869c887c5"), looks := false }, kinds := [], alts := [], laidByText := true, laidKinds := [.data], laidTests := true, laidLooks := .later }
def FieldLawsCardSaid : Prop := Claim7.holds Tryd.pinned (.plain (OpenSpec.ofChange fieldLawsSpec)) fieldLawsCard

/-- THE TIED CARD OF 'cressetlaw08.FieldSquares'. -/
def fieldSquaresCard : Claim7 := { stood := { row := fieldSquaresRow, standIns := [], harness := (true, "dba20598ad203cc8d4eae559620b14cd2e22259d0cd38305137873b869c887c5"), looks := false }, kinds := [], alts := [], laidByText := true, laidKinds := [.data], laidTests := true, laidLooks := .later }
def FieldSquaresCardSaid : Prop := Claim7.holds Tryd.pinned (.plain (OpenSpec.ofChange fieldSquaresSpec)) fieldSquaresCard

/-- THE TIED CARD OF 'cressetlaw08.FieldOnce'. -/
def fieldOnceCard : Claim7 := { stood := { row := fieldOnceRow, standIns := [], harness := (true, "dba20598ad203cc8d4eae559620b14cd2e22259d0cd38305137873b869c887c5"), looks := false }, kinds := [], alts := [], laidByText := true, laidKinds := [.data], laidTests := true, laidLooks := .later }
def FieldOnceCardSaid : Prop := Claim7.holds Tryd.pinned (.plain (OpenSpec.ofChange fieldOnceSpec)) fieldOnceCard

/-- THE TIED CARD OF 'cressetlaw08.FieldOf'. -/
def fieldOfCard : Claim7 := { stood := { row := fieldOfRow, standIns := [], harness := (true, "dba20598ad203cc8d4eae559620b14cd2e22259d0cd38305137873b869c887c5"), looks := false }, kinds := [], alts := [], laidByText := true, laidKinds := [.data], laidTests := true, laidLooks := .later }
def FieldOfCardSaid : Prop := Claim7.holds Tryd.pinned (.plain (OpenSpec.ofChange fieldOfSpec)) fieldOfCard

/-- THE TIED CARD OF 'cressetlaw08.FieldSmall'. -/
def fieldSmallCard : Claim7 := { stood := { row := fieldSmallRow, standIns := [], harness := (true, "dba20598ad203cc8d4eae559620b14cd2e22259d0cd38305137873b869c887c5"), looks := false }, kinds := [], alts := [], laidByText := true, laidKinds := [.data], laidTests := true, laidLooks := .later }
def FieldSmallCardSaid : Prop := Claim7.holds Tryd.pinned (.plain (OpenSpec.ofChange fieldSmallSpec)) fieldSmallCard

/-- THE TIED CARD OF 'cressetlaw08.FieldSum'. -/
def fieldSumCard : Claim7 := { stood := { row := fieldSumRow, standIns := [], harness := (true, "dba20598ad203cc8d4eae559620b14cd2e22259d0cd38305137873b869c887c5"), looks := false }, kinds := [], alts := [], laidByText := true, laidKinds := [.data], laidTests := true, laidLooks := .later }
def FieldSumCardSaid : Prop := Claim7.holds Tryd.pinned (.plain (OpenSpec.ofChange fieldSumSpec)) fieldSumCard

/-- THE TIED CARD OF 'cressetlaw08.FieldSub'. -/
def fieldSubCard : Claim7 := { stood := { row := fieldSubRow, standIns := [], harness := (true, "dba20598ad203cc8d4eae559620b14cd2e22259d0cd38305137873b869c887c5"), looks := false }, kinds := [], alts := [], laidByText := true, laidKinds := [.data], laidTests := true, laidLooks := .later }
def FieldSubCardSaid : Prop := Claim7.holds Tryd.pinned (.plain (OpenSpec.ofChange fieldSubSpec)) fieldSubCard

/-- THE SECOND FORM's CARD OF 'cressetlaw08.FieldTakes'. -/
def fieldTakesUptoCard : Claim7 := { stood := { row := fieldTakesUptoRow, standIns := [], harness := (true, "dba20598ad203cc8d4eae559620b14cd2e22259d0cd38305137873b869c887c5"), looks := false }, kinds := [], alts := [], laidByText := true, laidKinds := [.data], laidTests := true, laidLooks := .later }
def FieldTakesUptoCardSaid : Prop := Claim7.holds Tryd.pinned (.plain (OpenSpec.upto fieldTakesSpec)) fieldTakesUptoCard

/-- THE SECOND FORM's CARD OF 'cressetlaw08.FieldAdds'. -/
def fieldAddsUptoCard : Claim7 := { stood := { row := fieldAddsUptoRow, standIns := [], harness := (true, "dba20598ad203cc8d4eae559620b14cd2e22259d0cd38305137873b869c887c5"), looks := false }, kinds := [], alts := [], laidByText := true, laidKinds := [.data], laidTests := true, laidLooks := .later }
def FieldAddsUptoCardSaid : Prop := Claim7.holds Tryd.pinned (.plain (OpenSpec.upto fieldAddsSpec)) fieldAddsUptoCard

/-- THE SECOND FORM's CARD OF 'cressetlaw08.FieldMuls'. -/
def fieldMulsUptoCard : Claim7 := { stood := { row := fieldMulsUptoRow, standIns := [], harness := (true, "dba20598ad203cc8d4eae559620b14cd2e22259d0cd38305137873b869c887c5"), looks := false }, kinds := [], alts := [], laidByText := true, laidKinds := [.data], laidTests := true, laidLooks := .later }
def FieldMulsUptoCardSaid : Prop := Claim7.holds Tryd.pinned (.plain (OpenSpec.upto fieldMulsSpec)) fieldMulsUptoCard

/-- THE SECOND FORM's CARD OF 'cressetlaw08.FieldInverts'. -/
def fieldInvertsUptoCard : Claim7 := { stood := { row := fieldInvertsUptoRow, standIns := [], harness := (true, "dba20598ad203cc8d4eae559620b14cd2e22259d0cd38305137873b869c887c5"), looks := false }, kinds := [], alts := [], laidByText := true, laidKinds := [.data], laidTests := true, laidLooks := .later }
def FieldInvertsUptoCardSaid : Prop := Claim7.holds Tryd.pinned (.plain (OpenSpec.upto fieldInvertsSpec)) fieldInvertsUptoCard

/-- THE SECOND FORM's CARD OF 'cressetlaw08.FieldRoots'. -/
def fieldRootsUptoCard : Claim7 := { stood := { row := fieldRootsUptoRow, standIns := [], harness := (true, "dba20598ad203cc8d4eae559620b14cd2e22259d0cd38305137873b869c887c5"), looks := false }, kinds := [], alts := [], laidByText := true, laidKinds := [.data], laidTests := true, laidLooks := .later }
def FieldRootsUptoCardSaid : Prop := Claim7.holds Tryd.pinned (.plain (OpenSpec.upto fieldRootsSpec)) fieldRootsUptoCard

/-- THE SECOND FORM's CARD OF 'cressetlaw08.FieldLaws'. -/
def fieldLawsUptoCard : Claim7 := { stood := { row := fieldLawsUptoRow, standIns := [], harness := (true, "dba20598ad203cc8d4eae559620b14cd2e22259d0cd38305137873b869c887c5"), looks := false }, kinds := [], alts := [], laidByText := true, laidKinds := [.data], laidTests := true, laidLooks := .later }
def FieldLawsUptoCardSaid : Prop := Claim7.holds Tryd.pinned (.plain (OpenSpec.upto fieldLawsSpec)) fieldLawsUptoCard

/-- THE SECOND FORM's CARD OF 'cressetlaw08.FieldSquares'. -/
def fieldSquaresUptoCard : Claim7 := { stood := { row := fieldSquaresUptoRow, standIns := [], harness := (true, "dba20598ad203cc8d4eae559620b14cd2e22259d0cd38305137873b869c887c5"), looks := false }, kinds := [], alts := [], laidByText := true, laidKinds := [.data], laidTests := true, laidLooks := .later }
def FieldSquaresUptoCardSaid : Prop := Claim7.holds Tryd.pinned (.plain (OpenSpec.upto fieldSquaresSpec)) fieldSquaresUptoCard

/-- THE SECOND FORM's CARD OF 'cressetlaw08.FieldOnce'. -/
def fieldOnceUptoCard : Claim7 := { stood := { row := fieldOnceUptoRow, standIns := [], harness := (true, "dba20598ad203cc8d4eae559620b14cd2e22259d0cd38305137873b869c887c5"), looks := false }, kinds := [], alts := [], laidByText := true, laidKinds := [.data], laidTests := true, laidLooks := .later }
def FieldOnceUptoCardSaid : Prop := Claim7.holds Tryd.pinned (.plain (OpenSpec.upto fieldOnceSpec)) fieldOnceUptoCard

/-- THE SECOND FORM's CARD OF 'cressetlaw08.FieldOf'. -/
def fieldOfUptoCard : Claim7 := { stood := { row := fieldOfUptoRow, standIns := [], harness := (true, "dba20598ad203cc8d4eae559620b14cd2e22259d0cd38305137873b869c887c5"), looks := false }, kinds := [], alts := [], laidByText := true, laidKinds := [.data], laidTests := true, laidLooks := .later }
def FieldOfUptoCardSaid : Prop := Claim7.holds Tryd.pinned (.plain (OpenSpec.upto fieldOfSpec)) fieldOfUptoCard

/-- THE SECOND FORM's CARD OF 'cressetlaw08.FieldSmall'. -/
def fieldSmallUptoCard : Claim7 := { stood := { row := fieldSmallUptoRow, standIns := [], harness := (true, "dba20598ad203cc8d4eae559620b14cd2e22259d0cd38305137873b869c887c5"), looks := false }, kinds := [], alts := [], laidByText := true, laidKinds := [.data], laidTests := true, laidLooks := .later }
def FieldSmallUptoCardSaid : Prop := Claim7.holds Tryd.pinned (.plain (OpenSpec.upto fieldSmallSpec)) fieldSmallUptoCard

/-- THE SECOND FORM's CARD OF 'cressetlaw08.FieldSum'. -/
def fieldSumUptoCard : Claim7 := { stood := { row := fieldSumUptoRow, standIns := [], harness := (true, "dba20598ad203cc8d4eae559620b14cd2e22259d0cd38305137873b869c887c5"), looks := false }, kinds := [], alts := [], laidByText := true, laidKinds := [.data], laidTests := true, laidLooks := .later }
def FieldSumUptoCardSaid : Prop := Claim7.holds Tryd.pinned (.plain (OpenSpec.upto fieldSumSpec)) fieldSumUptoCard

/-- THE SECOND FORM's CARD OF 'cressetlaw08.FieldSub'. -/
def fieldSubUptoCard : Claim7 := { stood := { row := fieldSubUptoRow, standIns := [], harness := (true, "dba20598ad203cc8d4eae559620b14cd2e22259d0cd38305137873b869c887c5"), looks := false }, kinds := [], alts := [], laidByText := true, laidKinds := [.data], laidTests := true, laidLooks := .later }
def FieldSubUptoCardSaid : Prop := Claim7.holds Tryd.pinned (.plain (OpenSpec.upto fieldSubSpec)) fieldSubUptoCard
end Rows
end Go.Proofs.YtfidcdkoggfjaaaDoor
