/-
  DERIVED. GIVEN WITH THE SEED: THE CARDS: each row of YtbaalgbkpgfhcaaDoorRows.lean that lists a variable, with what it lists TIED to the program's text (the seventh form; the later family's looks); each row that meets fmt, with fmt's text TOLD by the authors' own Lean function (tested against real Go, not proved from fmt's source: count such statements apart). THE CARD IS WHAT COUNTS. Prove the row's statement (the work); the ties are given (YtbaalgbkpgfhcaaDoorTie.lean); close each card by the builder's one call (the guide's Derived/Test/ToyasCard.lean, 'card_holds'). Laid BY PROGRAM, IN A SANDBOX (cutbox-door.mjs). By AI agents, Wed Nov 11 2026. No macro, syntax, notation, axiom, sorry.
-/
import Derived.Test.YtbaalgbkpgfhcaaDoorRows
import GoSem.ClaimSeven
namespace Go.Proofs.YtbaalgbkpgfhcaaDoor
namespace Rows

/-- THE TIED CARD OF 'cressetlaw01.ShaSmall'. -/
def shaSmallCard : Claim7 := { stood := { row := shaSmallRow, standIns := [], harness := (true, "9c0c385ee49ba105079584480bff0604f5cd4c512430f4405f75f7a7a0c538b9"), looks := false }, kinds := [], alts := [], laidByText := true, laidKinds := [.data, .data], laidTests := true, laidLooks := .later }
def ShaSmallCardSaid : Prop := Claim7.holds Tryd.pinned (.plain (OpenSpec.ofChange shaSmallSpec)) shaSmallCard

/-- THE TIED CARD OF 'cressetlaw01.ShaGreat'. -/
def shaGreatCard : Claim7 := { stood := { row := shaGreatRow, standIns := [], harness := (true, "9c0c385ee49ba105079584480bff0604f5cd4c512430f4405f75f7a7a0c538b9"), looks := false }, kinds := [], alts := [], laidByText := true, laidKinds := [.data, .data], laidTests := true, laidLooks := .later }
def ShaGreatCardSaid : Prop := Claim7.holds Tryd.pinned (.plain (OpenSpec.ofChange shaGreatSpec)) shaGreatCard

/-- THE TIED CARD OF 'cressetlaw01.ShaTakes'. -/
def shaTakesCard : Claim7 := { stood := { row := shaTakesRow, standIns := [], harness := (true, "9c0c385ee49ba105079584480bff0604f5cd4c512430f4405f75f7a7a0c538b9"), looks := false }, kinds := [], alts := [], laidByText := true, laidKinds := [.data, .data], laidTests := true, laidLooks := .later }
def ShaTakesCardSaid : Prop := Claim7.holds Tryd.pinned (.plain (OpenSpec.ofChange shaTakesSpec)) shaTakesCard

/-- THE TIED CARD OF 'cressetlaw01.ShaCut'. -/
def shaCutCard : Claim7 := { stood := { row := shaCutRow, standIns := [], harness := (true, "9c0c385ee49ba105079584480bff0604f5cd4c512430f4405f75f7a7a0c538b9"), looks := false }, kinds := [], alts := [], laidByText := true, laidKinds := [.data, .data], laidTests := true, laidLooks := .later }
def ShaCutCardSaid : Prop := Claim7.holds Tryd.pinned (.plain (OpenSpec.ofChange shaCutSpec)) shaCutCard

/-- THE TIED CARD OF 'cressetlaw01.ShaSizes'. -/
def shaSizesCard : Claim7 := { stood := { row := shaSizesRow, standIns := [], harness := (true, "9c0c385ee49ba105079584480bff0604f5cd4c512430f4405f75f7a7a0c538b9"), looks := false }, kinds := [], alts := [], laidByText := true, laidKinds := [.data, .data], laidTests := true, laidLooks := .later }
def ShaSizesCardSaid : Prop := Claim7.holds Tryd.pinned (.plain (OpenSpec.ofChange shaSizesSpec)) shaSizesCard

/-- THE TIED CARD OF 'cressetlaw01.ShaNil'. -/
def shaNilCard : Claim7 := { stood := { row := shaNilRow, standIns := [], harness := (true, "9c0c385ee49ba105079584480bff0604f5cd4c512430f4405f75f7a7a0c538b9"), looks := false }, kinds := [], alts := [], laidByText := true, laidKinds := [.data, .data], laidTests := true, laidLooks := .later }
def ShaNilCardSaid : Prop := Claim7.holds Tryd.pinned (.plain (OpenSpec.ofChange shaNilSpec)) shaNilCard

/-- THE SECOND FORM's CARD OF 'cressetlaw01.ShaSmall'. -/
def shaSmallUptoCard : Claim7 := { stood := { row := shaSmallUptoRow, standIns := [], harness := (true, "9c0c385ee49ba105079584480bff0604f5cd4c512430f4405f75f7a7a0c538b9"), looks := false }, kinds := [], alts := [], laidByText := true, laidKinds := [.data, .data], laidTests := true, laidLooks := .later }
def ShaSmallUptoCardSaid : Prop := Claim7.holds Tryd.pinned (.plain (OpenSpec.upto shaSmallSpec)) shaSmallUptoCard

/-- THE SECOND FORM's CARD OF 'cressetlaw01.ShaGreat'. -/
def shaGreatUptoCard : Claim7 := { stood := { row := shaGreatUptoRow, standIns := [], harness := (true, "9c0c385ee49ba105079584480bff0604f5cd4c512430f4405f75f7a7a0c538b9"), looks := false }, kinds := [], alts := [], laidByText := true, laidKinds := [.data, .data], laidTests := true, laidLooks := .later }
def ShaGreatUptoCardSaid : Prop := Claim7.holds Tryd.pinned (.plain (OpenSpec.upto shaGreatSpec)) shaGreatUptoCard

/-- THE SECOND FORM's CARD OF 'cressetlaw01.ShaTakes'. -/
def shaTakesUptoCard : Claim7 := { stood := { row := shaTakesUptoRow, standIns := [], harness := (true, "9c0c385ee49ba105079584480bff0604f5cd4c512430f4405f75f7a7a0c538b9"), looks := false }, kinds := [], alts := [], laidByText := true, laidKinds := [.data, .data], laidTests := true, laidLooks := .later }
def ShaTakesUptoCardSaid : Prop := Claim7.holds Tryd.pinned (.plain (OpenSpec.upto shaTakesSpec)) shaTakesUptoCard

/-- THE SECOND FORM's CARD OF 'cressetlaw01.ShaCut'. -/
def shaCutUptoCard : Claim7 := { stood := { row := shaCutUptoRow, standIns := [], harness := (true, "9c0c385ee49ba105079584480bff0604f5cd4c512430f4405f75f7a7a0c538b9"), looks := false }, kinds := [], alts := [], laidByText := true, laidKinds := [.data, .data], laidTests := true, laidLooks := .later }
def ShaCutUptoCardSaid : Prop := Claim7.holds Tryd.pinned (.plain (OpenSpec.upto shaCutSpec)) shaCutUptoCard

/-- THE SECOND FORM's CARD OF 'cressetlaw01.ShaSizes'. -/
def shaSizesUptoCard : Claim7 := { stood := { row := shaSizesUptoRow, standIns := [], harness := (true, "9c0c385ee49ba105079584480bff0604f5cd4c512430f4405f75f7a7a0c538b9"), looks := false }, kinds := [], alts := [], laidByText := true, laidKinds := [.data, .data], laidTests := true, laidLooks := .later }
def ShaSizesUptoCardSaid : Prop := Claim7.holds Tryd.pinned (.plain (OpenSpec.upto shaSizesSpec)) shaSizesUptoCard

/-- THE SECOND FORM's CARD OF 'cressetlaw01.ShaNil'. -/
def shaNilUptoCard : Claim7 := { stood := { row := shaNilUptoRow, standIns := [], harness := (true, "9c0c385ee49ba105079584480bff0604f5cd4c512430f4405f75f7a7a0c538b9"), looks := false }, kinds := [], alts := [], laidByText := true, laidKinds := [.data, .data], laidTests := true, laidLooks := .later }
def ShaNilUptoCardSaid : Prop := Claim7.holds Tryd.pinned (.plain (OpenSpec.upto shaNilSpec)) shaNilUptoCard
end Rows
end Go.Proofs.YtbaalgbkpgfhcaaDoor
