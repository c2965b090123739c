/-
  DERIVED. GIVEN WITH THE SEED: THE CARDS: each row of YtnodllkfmdhhlaaDoorRows.lean that lists a variable, with what it lists TIED to the program's text (the seventh form; the later family's looks); each row that meets fmt, with fmt's text TOLD by the authors' own Lean function (tested against real Go, not proved from fmt's source: count such statements apart). THE CARD IS WHAT COUNTS. Prove the row's statement (the work); the ties are given (YtnodllkfmdhhlaaDoorTie.lean); close each card by the builder's one call (the guide's Derived/Test/ToyasCard.lean, 'card_holds'). Laid BY PROGRAM, IN A SANDBOX (cutbox-door.mjs). By AI agents, Wed Nov 11 2026. No macro, syntax, notation, axiom, sorry.
-/
import Derived.Test.YtnodllkfmdhhlaaDoorRows
import GoSem.ClaimSeven
namespace Go.Proofs.YtnodllkfmdhhlaaDoor
namespace Rows

/-- THE TIED CARD OF 'cressetlaw09.LadderShares'. -/
def ladderSharesCard : Claim7 := { stood := { row := ladderSharesRow, standIns := [], harness := (true, "3d8fa569b354870fe76bfeed7cfd70fef40b831b3ed3f75af293c2cd06270a74"), looks := false }, kinds := [], alts := [], laidByText := true, laidKinds := [.data], laidTests := true, laidLooks := .later }
def LadderSharesCardSaid : Prop := Claim7.holds Tryd.pinned (.plain (OpenSpec.ofChange ladderSharesSpec)) ladderSharesCard

/-- THE TIED CARD OF 'cressetlaw09.LadderPublic'. -/
def ladderPublicCard : Claim7 := { stood := { row := ladderPublicRow, standIns := [], harness := (true, "3d8fa569b354870fe76bfeed7cfd70fef40b831b3ed3f75af293c2cd06270a74"), looks := false }, kinds := [], alts := [], laidByText := true, laidKinds := [.data], laidTests := true, laidLooks := .later }
def LadderPublicCardSaid : Prop := Claim7.holds Tryd.pinned (.plain (OpenSpec.ofChange ladderPublicSpec)) ladderPublicCard

/-- THE TIED CARD OF 'cressetlaw09.LadderNine'. -/
def ladderNineCard : Claim7 := { stood := { row := ladderNineRow, standIns := [], harness := (true, "3d8fa569b354870fe76bfeed7cfd70fef40b831b3ed3f75af293c2cd06270a74"), looks := false }, kinds := [], alts := [], laidByText := true, laidKinds := [.data], laidTests := true, laidLooks := .later }
def LadderNineCardSaid : Prop := Claim7.holds Tryd.pinned (.plain (OpenSpec.ofChange ladderNineSpec)) ladderNineCard

/-- THE TIED CARD OF 'cressetlaw09.LadderBits'. -/
def ladderBitsCard : Claim7 := { stood := { row := ladderBitsRow, standIns := [], harness := (true, "3d8fa569b354870fe76bfeed7cfd70fef40b831b3ed3f75af293c2cd06270a74"), looks := false }, kinds := [], alts := [], laidByText := true, laidKinds := [.data], laidTests := true, laidLooks := .later }
def LadderBitsCardSaid : Prop := Claim7.holds Tryd.pinned (.plain (OpenSpec.ofChange ladderBitsSpec)) ladderBitsCard

/-- THE SECOND FORM's CARD OF 'cressetlaw09.LadderShares'. -/
def ladderSharesUptoCard : Claim7 := { stood := { row := ladderSharesUptoRow, standIns := [], harness := (true, "3d8fa569b354870fe76bfeed7cfd70fef40b831b3ed3f75af293c2cd06270a74"), looks := false }, kinds := [], alts := [], laidByText := true, laidKinds := [.data], laidTests := true, laidLooks := .later }
def LadderSharesUptoCardSaid : Prop := Claim7.holds Tryd.pinned (.plain (OpenSpec.upto ladderSharesSpec)) ladderSharesUptoCard

/-- THE SECOND FORM's CARD OF 'cressetlaw09.LadderPublic'. -/
def ladderPublicUptoCard : Claim7 := { stood := { row := ladderPublicUptoRow, standIns := [], harness := (true, "3d8fa569b354870fe76bfeed7cfd70fef40b831b3ed3f75af293c2cd06270a74"), looks := false }, kinds := [], alts := [], laidByText := true, laidKinds := [.data], laidTests := true, laidLooks := .later }
def LadderPublicUptoCardSaid : Prop := Claim7.holds Tryd.pinned (.plain (OpenSpec.upto ladderPublicSpec)) ladderPublicUptoCard

/-- THE SECOND FORM's CARD OF 'cressetlaw09.LadderNine'. -/
def ladderNineUptoCard : Claim7 := { stood := { row := ladderNineUptoRow, standIns := [], harness := (true, "3d8fa569b354870fe76bfeed7cfd70fef40b831b3ed3f75af293c2cd06270a74"), looks := false }, kinds := [], alts := [], laidByText := true, laidKinds := [.data], laidTests := true, laidLooks := .later }
def LadderNineUptoCardSaid : Prop := Claim7.holds Tryd.pinned (.plain (OpenSpec.upto ladderNineSpec)) ladderNineUptoCard

/-- THE SECOND FORM's CARD OF 'cressetlaw09.LadderBits'. -/
def ladderBitsUptoCard : Claim7 := { stood := { row := ladderBitsUptoRow, standIns := [], harness := (true, "3d8fa569b354870fe76bfeed7cfd70fef40b831b3ed3f75af293c2cd06270a74"), looks := false }, kinds := [], alts := [], laidByText := true, laidKinds := [.data], laidTests := true, laidLooks := .later }
def LadderBitsUptoCardSaid : Prop := Claim7.holds Tryd.pinned (.plain (OpenSpec.upto ladderBitsSpec)) ladderBitsUptoCard
end Rows
end Go.Proofs.YtnodllkfmdhhlaaDoor
