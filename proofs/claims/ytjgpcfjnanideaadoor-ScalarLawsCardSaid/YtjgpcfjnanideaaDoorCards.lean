/-
  DERIVED. GIVEN WITH THE SEED: THE CARDS: each row of YtjgpcfjnanideaaDoorRows.lean that lists a variable, with what it lists TIED to the program's text (the seventh form; the later family's looks); each row that meets fmt, with fmt's text TOLD by the authors' own Lean function (tested against real Go, not proved from fmt's source: count such statements apart). THE CARD IS WHAT COUNTS. Prove the row's statement (the work); the ties are given (YtjgpcfjnanideaaDoorTie.lean); close each card by the builder's one call (the guide's Derived/Test/ToyasCard.lean, 'card_holds'). Laid BY PROGRAM, IN A SANDBOX (cutbox-door.mjs). By AI agents, Wed Nov 11 2026. No macro, syntax, notation, axiom, sorry.
-/
import Derived.Test.YtjgpcfjnanideaaDoorRows
import GoSem.ClaimSeven
namespace Go.Proofs.YtjgpcfjnanideaaDoor
namespace Rows

/-- THE TIED CARD OF 'cressetlaw10.ScalarWide'. -/
def scalarWideCard : Claim7 := { stood := { row := scalarWideRow, standIns := [], harness := (true, "d8297783da29cf5dfe9470e6a35883c7b3cef3cd3de2b7bd2120ff54c150f2b4"), looks := false }, kinds := [], alts := [], laidByText := true, laidKinds := [.wider], laidTests := true, laidLooks := .later }
def ScalarWideCardSaid : Prop := Claim7.holds Tryd.pinned (.plain (OpenSpec.ofChange scalarWideSpec)) scalarWideCard

/-- THE TIED CARD OF 'cressetlaw10.ScalarRight'. -/
def scalarRightCard : Claim7 := { stood := { row := scalarRightRow, standIns := [], harness := (true, "d8297783da29cf5dfe9470e6a35883c7b3cef3cd3de2b7bd2120ff54c150f2b4"), looks := false }, kinds := [], alts := [], laidByText := true, laidKinds := [.wider], laidTests := true, laidLooks := .later }
def ScalarRightCardSaid : Prop := Claim7.holds Tryd.pinned (.plain (OpenSpec.ofChange scalarRightSpec)) scalarRightCard

/-- THE TIED CARD OF 'cressetlaw10.ScalarMulAdds'. -/
def scalarMulAddsCard : Claim7 := { stood := { row := scalarMulAddsRow, standIns := [], harness := (true, "d8297783da29cf5dfe9470e6a35883c7b3cef3cd3de2b7bd2120ff54c150f2b4"), looks := false }, kinds := [], alts := [], laidByText := true, laidKinds := [.wider], laidTests := true, laidLooks := .later }
def ScalarMulAddsCardSaid : Prop := Claim7.holds Tryd.pinned (.plain (OpenSpec.ofChange scalarMulAddsSpec)) scalarMulAddsCard

/-- THE TIED CARD OF 'cressetlaw10.ScalarLaws'. -/
def scalarLawsCard : Claim7 := { stood := { row := scalarLawsRow, standIns := [], harness := (true, "d8297783da29cf5dfe9470e6a35883c7b3cef3cd3de2b7bd2120ff54c150f2b4"), looks := false }, kinds := [], alts := [], laidByText := true, laidKinds := [.wider], laidTests := true, laidLooks := .later }
def ScalarLawsCardSaid : Prop := Claim7.holds Tryd.pinned (.plain (OpenSpec.ofChange scalarLawsSpec)) scalarLawsCard

/-- THE TIED CARD OF 'cressetlaw10.ScalarSpread'. -/
def scalarSpreadCard : Claim7 := { stood := { row := scalarSpreadRow, standIns := [], harness := (true, "d8297783da29cf5dfe9470e6a35883c7b3cef3cd3de2b7bd2120ff54c150f2b4"), looks := false }, kinds := [], alts := [], laidByText := true, laidKinds := [.wider], laidTests := true, laidLooks := .later }
def ScalarSpreadCardSaid : Prop := Claim7.holds Tryd.pinned (.plain (OpenSpec.ofChange scalarSpreadSpec)) scalarSpreadCard

/-- THE TIED CARD OF 'cressetlaw10.ScalarSmall'. -/
def scalarSmallCard : Claim7 := { stood := { row := scalarSmallRow, standIns := [], harness := (true, "d8297783da29cf5dfe9470e6a35883c7b3cef3cd3de2b7bd2120ff54c150f2b4"), looks := false }, kinds := [], alts := [], laidByText := true, laidKinds := [.wider], laidTests := true, laidLooks := .later }
def ScalarSmallCardSaid : Prop := Claim7.holds Tryd.pinned (.plain (OpenSpec.ofChange scalarSmallSpec)) scalarSmallCard

/-- THE SECOND FORM's CARD OF 'cressetlaw10.ScalarWide'. -/
def scalarWideUptoCard : Claim7 := { stood := { row := scalarWideUptoRow, standIns := [], harness := (true, "d8297783da29cf5dfe9470e6a35883c7b3cef3cd3de2b7bd2120ff54c150f2b4"), looks := false }, kinds := [], alts := [], laidByText := true, laidKinds := [.wider], laidTests := true, laidLooks := .later }
def ScalarWideUptoCardSaid : Prop := Claim7.holds Tryd.pinned (.plain (OpenSpec.upto scalarWideSpec)) scalarWideUptoCard

/-- THE SECOND FORM's CARD OF 'cressetlaw10.ScalarRight'. -/
def scalarRightUptoCard : Claim7 := { stood := { row := scalarRightUptoRow, standIns := [], harness := (true, "d8297783da29cf5dfe9470e6a35883c7b3cef3cd3de2b7bd2120ff54c150f2b4"), looks := false }, kinds := [], alts := [], laidByText := true, laidKinds := [.wider], laidTests := true, laidLooks := .later }
def ScalarRightUptoCardSaid : Prop := Claim7.holds Tryd.pinned (.plain (OpenSpec.upto scalarRightSpec)) scalarRightUptoCard

/-- THE SECOND FORM's CARD OF 'cressetlaw10.ScalarMulAdds'. -/
def scalarMulAddsUptoCard : Claim7 := { stood := { row := scalarMulAddsUptoRow, standIns := [], harness := (true, "d8297783da29cf5dfe9470e6a35883c7b3cef3cd3de2b7bd2120ff54c150f2b4"), looks := false }, kinds := [], alts := [], laidByText := true, laidKinds := [.wider], laidTests := true, laidLooks := .later }
def ScalarMulAddsUptoCardSaid : Prop := Claim7.holds Tryd.pinned (.plain (OpenSpec.upto scalarMulAddsSpec)) scalarMulAddsUptoCard

/-- THE SECOND FORM's CARD OF 'cressetlaw10.ScalarLaws'. -/
def scalarLawsUptoCard : Claim7 := { stood := { row := scalarLawsUptoRow, standIns := [], harness := (true, "d8297783da29cf5dfe9470e6a35883c7b3cef3cd3de2b7bd2120ff54c150f2b4"), looks := false }, kinds := [], alts := [], laidByText := true, laidKinds := [.wider], laidTests := true, laidLooks := .later }
def ScalarLawsUptoCardSaid : Prop := Claim7.holds Tryd.pinned (.plain (OpenSpec.upto scalarLawsSpec)) scalarLawsUptoCard

/-- THE SECOND FORM's CARD OF 'cressetlaw10.ScalarSpread'. -/
def scalarSpreadUptoCard : Claim7 := { stood := { row := scalarSpreadUptoRow, standIns := [], harness := (true, "d8297783da29cf5dfe9470e6a35883c7b3cef3cd3de2b7bd2120ff54c150f2b4"), looks := false }, kinds := [], alts := [], laidByText := true, laidKinds := [.wider], laidTests := true, laidLooks := .later }
def ScalarSpreadUptoCardSaid : Prop := Claim7.holds Tryd.pinned (.plain (OpenSpec.upto scalarSpreadSpec)) scalarSpreadUptoCard

/-- THE SECOND FORM's CARD OF 'cressetlaw10.ScalarSmall'. -/
def scalarSmallUptoCard : Claim7 := { stood := { row := scalarSmallUptoRow, standIns := [], harness := (true, "d8297783da29cf5dfe9470e6a35883c7b3cef3cd3de2b7bd2120ff54c150f2b4"), looks := false }, kinds := [], alts := [], laidByText := true, laidKinds := [.wider], laidTests := true, laidLooks := .later }
def ScalarSmallUptoCardSaid : Prop := Claim7.holds Tryd.pinned (.plain (OpenSpec.upto scalarSmallSpec)) scalarSmallUptoCard
end Rows
end Go.Proofs.YtjgpcfjnanideaaDoor
