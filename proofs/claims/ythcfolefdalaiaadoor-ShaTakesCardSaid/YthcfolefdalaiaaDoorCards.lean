/-
  DERIVED. GIVEN WITH THE SEED: THE CARDS: each row of YthcfolefdalaiaaDoorRows.lean that lists a variable, with what it lists TIED to the program's text (the seventh form; the later family's looks); each row that meets fmt, with fmt's text TOLD by the authors' own Lean function (tested against real Go, not proved from fmt's source: count such statements apart). THE CARD IS WHAT COUNTS. Prove the row's statement (the work); the ties are given (YthcfolefdalaiaaDoorTie.lean); close each card by the builder's one call (the guide's Derived/Test/ToyasCard.lean, 'card_holds'). Laid BY PROGRAM, IN A SANDBOX (cutbox-door.mjs). By AI agents, Wed Nov 11 2026. No macro, syntax, notation, axiom, sorry.
-/
import Derived.Test.YthcfolefdalaiaaDoorRows
import GoSem.ClaimSeven
namespace Go.Proofs.YthcfolefdalaiaaDoor
namespace Rows

/-- THE TIED CARD OF 'cressetlaw01.ShaGreat'. -/
def shaGreatCard : Claim7 := { stood := { row := shaGreatRow, standIns := [], harness := (true, "225435dd55d283f3af50af713b04fb7b7711febad748264678e6632345c27f3b"), looks := false }, kinds := [], alts := [], laidByText := true, laidKinds := [.data, .data], laidTests := true, laidLooks := .later }
def ShaGreatCardSaid : Prop := Claim7.holds Tryd.pinned (.plain (OpenSpec.ofChange shaGreatSpec)) shaGreatCard

/-- THE TIED CARD OF 'cressetlaw01.ShaTakes'. -/
def shaTakesCard : Claim7 := { stood := { row := shaTakesRow, standIns := [], harness := (true, "225435dd55d283f3af50af713b04fb7b7711febad748264678e6632345c27f3b"), looks := false }, kinds := [], alts := [], laidByText := true, laidKinds := [.data, .data], laidTests := true, laidLooks := .later }
def ShaTakesCardSaid : Prop := Claim7.holds Tryd.pinned (.plain (OpenSpec.ofChange shaTakesSpec)) shaTakesCard

/-- THE TIED CARD OF 'cressetlaw02.MacTags'. -/
def macTagsCard : Claim7 := { stood := { row := macTagsRow, standIns := [], harness := (true, "225435dd55d283f3af50af713b04fb7b7711febad748264678e6632345c27f3b"), looks := false }, kinds := [], alts := [], laidByText := true, laidKinds := [.data, .data], laidTests := true, laidLooks := .later }
def MacTagsCardSaid : Prop := Claim7.holds Tryd.pinned (.plain (OpenSpec.ofChange macTagsSpec)) macTagsCard

/-- THE TIED CARD OF 'cressetlaw02.MacExtracts'. -/
def macExtractsCard : Claim7 := { stood := { row := macExtractsRow, standIns := [], harness := (true, "225435dd55d283f3af50af713b04fb7b7711febad748264678e6632345c27f3b"), looks := false }, kinds := [], alts := [], laidByText := true, laidKinds := [.data, .data], laidTests := true, laidLooks := .later }
def MacExtractsCardSaid : Prop := Claim7.holds Tryd.pinned (.plain (OpenSpec.ofChange macExtractsSpec)) macExtractsCard

/-- THE TIED CARD OF 'cressetlaw02.MacExpands'. -/
def macExpandsCard : Claim7 := { stood := { row := macExpandsRow, standIns := [], harness := (true, "225435dd55d283f3af50af713b04fb7b7711febad748264678e6632345c27f3b"), looks := false }, kinds := [], alts := [], laidByText := true, laidKinds := [.data, .data], laidTests := true, laidLooks := .later }
def MacExpandsCardSaid : Prop := Claim7.holds Tryd.pinned (.plain (OpenSpec.ofChange macExpandsSpec)) macExpandsCard

/-- THE TIED CARD OF 'cressetlaw02.MacLabels'. -/
def macLabelsCard : Claim7 := { stood := { row := macLabelsRow, standIns := [], harness := (true, "225435dd55d283f3af50af713b04fb7b7711febad748264678e6632345c27f3b"), looks := false }, kinds := [], alts := [], laidByText := true, laidKinds := [.data, .data], laidTests := true, laidLooks := .later }
def MacLabelsCardSaid : Prop := Claim7.holds Tryd.pinned (.plain (OpenSpec.ofChange macLabelsSpec)) macLabelsCard

/-- THE TIED CARD OF 'cressetlaw02.MacSame'. -/
def macSameCard : Claim7 := { stood := { row := macSameRow, standIns := [], harness := (true, "225435dd55d283f3af50af713b04fb7b7711febad748264678e6632345c27f3b"), looks := false }, kinds := [], alts := [], laidByText := true, laidKinds := [.data, .data], laidTests := true, laidLooks := .later }
def MacSameCardSaid : Prop := Claim7.holds Tryd.pinned (.plain (OpenSpec.ofChange macSameSpec)) macSameCard

/-- THE TIED CARD OF 'cressetlaw02.MacBegins'. -/
def macBeginsCard : Claim7 := { stood := { row := macBeginsRow, standIns := [], harness := (true, "225435dd55d283f3af50af713b04fb7b7711febad748264678e6632345c27f3b"), looks := false }, kinds := [], alts := [], laidByText := true, laidKinds := [.data, .data], laidTests := true, laidLooks := .later }
def MacBeginsCardSaid : Prop := Claim7.holds Tryd.pinned (.plain (OpenSpec.ofChange macBeginsSpec)) macBeginsCard

/-- THE TIED CARD OF 'cressetlaw02.MacLong'. -/
def macLongCard : Claim7 := { stood := { row := macLongRow, standIns := [], harness := (true, "225435dd55d283f3af50af713b04fb7b7711febad748264678e6632345c27f3b"), looks := false }, kinds := [], alts := [], laidByText := true, laidKinds := [.data, .data], laidTests := true, laidLooks := .later }
def MacLongCardSaid : Prop := Claim7.holds Tryd.pinned (.plain (OpenSpec.ofChange macLongSpec)) macLongCard

/-- THE TIED CARD OF 'cressetlaw02.MacExtract'. -/
def macExtractCard : Claim7 := { stood := { row := macExtractRow, standIns := [], harness := (true, "225435dd55d283f3af50af713b04fb7b7711febad748264678e6632345c27f3b"), looks := false }, kinds := [], alts := [], laidByText := true, laidKinds := [.data, .data], laidTests := true, laidLooks := .later }
def MacExtractCardSaid : Prop := Claim7.holds Tryd.pinned (.plain (OpenSpec.ofChange macExtractSpec)) macExtractCard

/-- THE SECOND FORM's CARD OF 'cressetlaw01.ShaGreat'. -/
def shaGreatUptoCard : Claim7 := { stood := { row := shaGreatUptoRow, standIns := [], harness := (true, "225435dd55d283f3af50af713b04fb7b7711febad748264678e6632345c27f3b"), looks := false }, kinds := [], alts := [], laidByText := true, laidKinds := [.data, .data], laidTests := true, laidLooks := .later }
def ShaGreatUptoCardSaid : Prop := Claim7.holds Tryd.pinned (.plain (OpenSpec.upto shaGreatSpec)) shaGreatUptoCard

/-- THE SECOND FORM's CARD OF 'cressetlaw01.ShaTakes'. -/
def shaTakesUptoCard : Claim7 := { stood := { row := shaTakesUptoRow, standIns := [], harness := (true, "225435dd55d283f3af50af713b04fb7b7711febad748264678e6632345c27f3b"), looks := false }, kinds := [], alts := [], laidByText := true, laidKinds := [.data, .data], laidTests := true, laidLooks := .later }
def ShaTakesUptoCardSaid : Prop := Claim7.holds Tryd.pinned (.plain (OpenSpec.upto shaTakesSpec)) shaTakesUptoCard

/-- THE SECOND FORM's CARD OF 'cressetlaw02.MacTags'. -/
def macTagsUptoCard : Claim7 := { stood := { row := macTagsUptoRow, standIns := [], harness := (true, "225435dd55d283f3af50af713b04fb7b7711febad748264678e6632345c27f3b"), looks := false }, kinds := [], alts := [], laidByText := true, laidKinds := [.data, .data], laidTests := true, laidLooks := .later }
def MacTagsUptoCardSaid : Prop := Claim7.holds Tryd.pinned (.plain (OpenSpec.upto macTagsSpec)) macTagsUptoCard

/-- THE SECOND FORM's CARD OF 'cressetlaw02.MacExtracts'. -/
def macExtractsUptoCard : Claim7 := { stood := { row := macExtractsUptoRow, standIns := [], harness := (true, "225435dd55d283f3af50af713b04fb7b7711febad748264678e6632345c27f3b"), looks := false }, kinds := [], alts := [], laidByText := true, laidKinds := [.data, .data], laidTests := true, laidLooks := .later }
def MacExtractsUptoCardSaid : Prop := Claim7.holds Tryd.pinned (.plain (OpenSpec.upto macExtractsSpec)) macExtractsUptoCard

/-- THE SECOND FORM's CARD OF 'cressetlaw02.MacExpands'. -/
def macExpandsUptoCard : Claim7 := { stood := { row := macExpandsUptoRow, standIns := [], harness := (true, "225435dd55d283f3af50af713b04fb7b7711febad748264678e6632345c27f3b"), looks := false }, kinds := [], alts := [], laidByText := true, laidKinds := [.data, .data], laidTests := true, laidLooks := .later }
def MacExpandsUptoCardSaid : Prop := Claim7.holds Tryd.pinned (.plain (OpenSpec.upto macExpandsSpec)) macExpandsUptoCard

/-- THE SECOND FORM's CARD OF 'cressetlaw02.MacLabels'. -/
def macLabelsUptoCard : Claim7 := { stood := { row := macLabelsUptoRow, standIns := [], harness := (true, "225435dd55d283f3af50af713b04fb7b7711febad748264678e6632345c27f3b"), looks := false }, kinds := [], alts := [], laidByText := true, laidKinds := [.data, .data], laidTests := true, laidLooks := .later }
def MacLabelsUptoCardSaid : Prop := Claim7.holds Tryd.pinned (.plain (OpenSpec.upto macLabelsSpec)) macLabelsUptoCard

/-- THE SECOND FORM's CARD OF 'cressetlaw02.MacSame'. -/
def macSameUptoCard : Claim7 := { stood := { row := macSameUptoRow, standIns := [], harness := (true, "225435dd55d283f3af50af713b04fb7b7711febad748264678e6632345c27f3b"), looks := false }, kinds := [], alts := [], laidByText := true, laidKinds := [.data, .data], laidTests := true, laidLooks := .later }
def MacSameUptoCardSaid : Prop := Claim7.holds Tryd.pinned (.plain (OpenSpec.upto macSameSpec)) macSameUptoCard

/-- THE SECOND FORM's CARD OF 'cressetlaw02.MacBegins'. -/
def macBeginsUptoCard : Claim7 := { stood := { row := macBeginsUptoRow, standIns := [], harness := (true, "225435dd55d283f3af50af713b04fb7b7711febad748264678e6632345c27f3b"), looks := false }, kinds := [], alts := [], laidByText := true, laidKinds := [.data, .data], laidTests := true, laidLooks := .later }
def MacBeginsUptoCardSaid : Prop := Claim7.holds Tryd.pinned (.plain (OpenSpec.upto macBeginsSpec)) macBeginsUptoCard

/-- THE SECOND FORM's CARD OF 'cressetlaw02.MacLong'. -/
def macLongUptoCard : Claim7 := { stood := { row := macLongUptoRow, standIns := [], harness := (true, "225435dd55d283f3af50af713b04fb7b7711febad748264678e6632345c27f3b"), looks := false }, kinds := [], alts := [], laidByText := true, laidKinds := [.data, .data], laidTests := true, laidLooks := .later }
def MacLongUptoCardSaid : Prop := Claim7.holds Tryd.pinned (.plain (OpenSpec.upto macLongSpec)) macLongUptoCard

/-- THE SECOND FORM's CARD OF 'cressetlaw02.MacExtract'. -/
def macExtractUptoCard : Claim7 := { stood := { row := macExtractUptoRow, standIns := [], harness := (true, "225435dd55d283f3af50af713b04fb7b7711febad748264678e6632345c27f3b"), looks := false }, kinds := [], alts := [], laidByText := true, laidKinds := [.data, .data], laidTests := true, laidLooks := .later }
def MacExtractUptoCardSaid : Prop := Claim7.holds Tryd.pinned (.plain (OpenSpec.upto macExtractSpec)) macExtractUptoCard
end Rows
end Go.Proofs.YthcfolefdalaiaaDoor
