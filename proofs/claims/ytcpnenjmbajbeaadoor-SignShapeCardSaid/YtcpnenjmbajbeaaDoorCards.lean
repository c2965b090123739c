/-
  DERIVED. GIVEN WITH THE SEED: THE CARDS: each row of YtcpnenjmbajbeaaDoorRows.lean that lists a variable, with what it lists TIED to the program's text (the seventh form; the later family's looks); each row that meets fmt, with fmt's text TOLD by the authors' own Lean function (tested against real Go, not proved from fmt's source: count such statements apart). THE CARD IS WHAT COUNTS. Prove the row's statement (the work); the ties are given (YtcpnenjmbajbeaaDoorTie.lean); close each card by the builder's one call (the guide's Derived/Test/ToyasCard.lean, 'card_holds'). Laid BY PROGRAM, IN A SANDBOX (cutbox-door.mjs). By AI agents, Wed Nov 11 2026. No macro, syntax, notation, axiom, sorry.
-/
import Derived.Test.YtcpnenjmbajbeaaDoorRows
import GoSem.ClaimSeven
namespace Go.Proofs.YtcpnenjmbajbeaaDoor
namespace Rows

/-- THE TIED CARD OF 'cressetlaw12.SignShape'. -/
def signShapeCard : Claim7 := { stood := { row := signShapeRow, standIns := [], harness := (true, "764af4f584a741c1d331ab6adad65401eeeced5f3407e963b48f54cf274b419f"), looks := false }, kinds := [], alts := [], laidByText := true, laidKinds := [.data, .wider, .data, .data], laidTests := true, laidLooks := .later }
def SignShapeCardSaid : Prop := Claim7.holds Tryd.pinned (.plain (OpenSpec.ofChange signShapeSpec)) signShapeCard

/-- THE SECOND FORM's CARD OF 'cressetlaw12.SignShape'. -/
def signShapeUptoCard : Claim7 := { stood := { row := signShapeUptoRow, standIns := [], harness := (true, "764af4f584a741c1d331ab6adad65401eeeced5f3407e963b48f54cf274b419f"), looks := false }, kinds := [], alts := [], laidByText := true, laidKinds := [.data, .wider, .data, .data], laidTests := true, laidLooks := .later }
def SignShapeUptoCardSaid : Prop := Claim7.holds Tryd.pinned (.plain (OpenSpec.upto signShapeSpec)) signShapeUptoCard
end Rows
end Go.Proofs.YtcpnenjmbajbeaaDoor
