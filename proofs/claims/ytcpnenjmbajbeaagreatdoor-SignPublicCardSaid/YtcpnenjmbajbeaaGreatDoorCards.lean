/-
  DERIVED. GIVEN WITH THE SEED: THE CARDS: each row of YtcpnenjmbajbeaaGreatDoorRows.lean that lists a variable, with what it lists TIED to the program's text (the seventh form; the later family's looks); each row that meets fmt, with fmt's text TOLD by the authors' own Lean function (tested against real Go, not proved from fmt's source: count such statements apart). THE CARD IS WHAT COUNTS. Prove the row's statement (the work); the ties are given (YtcpnenjmbajbeaaGreatDoorTie.lean); close each card by the builder's one call (the guide's Derived/Test/ToyasCard.lean, 'card_holds'). Laid BY PROGRAM, IN A SANDBOX (cutbox-door.mjs). By AI agents, Wed Nov 11 2026. No macro, syntax, notation, axiom, sorry.
-/
import Derived.Test.YtcpnenjmbajbeaaGreatDoorRows
import GoSem.ClaimSeven
namespace Go.Proofs.YtcpnenjmbajbeaaGreatDoor
namespace Rows

/-- THE TIED CARD OF 'cressetlaw12.SignPublic'. -/
def signPublicCard : Claim7 := { stood := { row := signPublicRow, standIns := [], harness := (true, "1f478ea718a5f9cedcccfcdb53e496faa23eb90573d90c05e462c6dcc7e362c4"), looks := false }, kinds := [], alts := [], laidByText := true, laidKinds := [.data, .wider, .data, .data], laidTests := true, laidLooks := .later }
def SignPublicCardSaid : Prop := Claim7.holds Tryz.pinned (.plain (OpenSpec.ofChange signPublicSpec)) signPublicCard

/-- THE TIED CARD OF 'cressetlaw12.SignSigns'. -/
def signSignsCard : Claim7 := { stood := { row := signSignsRow, standIns := [], harness := (true, "1f478ea718a5f9cedcccfcdb53e496faa23eb90573d90c05e462c6dcc7e362c4"), looks := false }, kinds := [], alts := [], laidByText := true, laidKinds := [.data, .wider, .data, .data], laidTests := true, laidLooks := .later }
def SignSignsCardSaid : Prop := Claim7.holds Tryz.pinned (.plain (OpenSpec.ofChange signSignsSpec)) signSignsCard

/-- THE TIED CARD OF 'cressetlaw12.SignVerifies'. -/
def signVerifiesCard : Claim7 := { stood := { row := signVerifiesRow, standIns := [], harness := (true, "1f478ea718a5f9cedcccfcdb53e496faa23eb90573d90c05e462c6dcc7e362c4"), looks := false }, kinds := [], alts := [], laidByText := true, laidKinds := [.data, .wider, .data, .data], laidTests := true, laidLooks := .later }
def SignVerifiesCardSaid : Prop := Claim7.holds Tryz.pinned (.plain (OpenSpec.ofChange signVerifiesSpec)) signVerifiesCard

/-- THE SECOND FORM's CARD OF 'cressetlaw12.SignPublic'. -/
def signPublicUptoCard : Claim7 := { stood := { row := signPublicUptoRow, standIns := [], harness := (true, "1f478ea718a5f9cedcccfcdb53e496faa23eb90573d90c05e462c6dcc7e362c4"), looks := false }, kinds := [], alts := [], laidByText := true, laidKinds := [.data, .wider, .data, .data], laidTests := true, laidLooks := .later }
def SignPublicUptoCardSaid : Prop := Claim7.holds Tryz.pinned (.plain (OpenSpec.upto signPublicSpec)) signPublicUptoCard

/-- THE SECOND FORM's CARD OF 'cressetlaw12.SignSigns'. -/
def signSignsUptoCard : Claim7 := { stood := { row := signSignsUptoRow, standIns := [], harness := (true, "1f478ea718a5f9cedcccfcdb53e496faa23eb90573d90c05e462c6dcc7e362c4"), looks := false }, kinds := [], alts := [], laidByText := true, laidKinds := [.data, .wider, .data, .data], laidTests := true, laidLooks := .later }
def SignSignsUptoCardSaid : Prop := Claim7.holds Tryz.pinned (.plain (OpenSpec.upto signSignsSpec)) signSignsUptoCard

/-- THE SECOND FORM's CARD OF 'cressetlaw12.SignVerifies'. -/
def signVerifiesUptoCard : Claim7 := { stood := { row := signVerifiesUptoRow, standIns := [], harness := (true, "1f478ea718a5f9cedcccfcdb53e496faa23eb90573d90c05e462c6dcc7e362c4"), looks := false }, kinds := [], alts := [], laidByText := true, laidKinds := [.data, .wider, .data, .data], laidTests := true, laidLooks := .later }
def SignVerifiesUptoCardSaid : Prop := Claim7.holds Tryz.pinned (.plain (OpenSpec.upto signVerifiesSpec)) signVerifiesUptoCard
end Rows
end Go.Proofs.YtcpnenjmbajbeaaGreatDoor
