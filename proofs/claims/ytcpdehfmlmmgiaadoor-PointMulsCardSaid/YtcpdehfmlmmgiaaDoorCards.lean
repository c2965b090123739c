/-
  DERIVED. GIVEN WITH THE SEED: THE CARDS: each row of YtcpdehfmlmmgiaaDoorRows.lean that lists a variable, with what it lists TIED to the program's text (the seventh form; the later family's looks); each row that meets fmt, with fmt's text TOLD by the authors' own Lean function (tested against real Go, not proved from fmt's source: count such statements apart). THE CARD IS WHAT COUNTS. Prove the row's statement (the work); the ties are given (YtcpdehfmlmmgiaaDoorTie.lean); close each card by the builder's one call (the guide's Derived/Test/ToyasCard.lean, 'card_holds'). Laid BY PROGRAM, IN A SANDBOX (cutbox-door.mjs). By AI agents, Wed Nov 11 2026. No macro, syntax, notation, axiom, sorry.
-/
import Derived.Test.YtcpdehfmlmmgiaaDoorRows
import GoSem.ClaimSeven
namespace Go.Proofs.YtcpdehfmlmmgiaaDoor
namespace Rows

/-- THE TIED CARD OF 'cressetlaw11.PointReads'. -/
def pointReadsCard : Claim7 := { stood := { row := pointReadsRow, standIns := [], harness := (true, "7ffcc3b5cef18ba74ea2d109beae9a88dc771220b653303bcd1ac0ce5230fa1f"), looks := false }, kinds := [], alts := [], laidByText := true, laidKinds := [.data], laidTests := true, laidLooks := .later }
def PointReadsCardSaid : Prop := Claim7.holds Tryd.pinned (.plain (OpenSpec.ofChange pointReadsSpec)) pointReadsCard

/-- THE TIED CARD OF 'cressetlaw11.PointAdds'. -/
def pointAddsCard : Claim7 := { stood := { row := pointAddsRow, standIns := [], harness := (true, "7ffcc3b5cef18ba74ea2d109beae9a88dc771220b653303bcd1ac0ce5230fa1f"), looks := false }, kinds := [], alts := [], laidByText := true, laidKinds := [.data], laidTests := true, laidLooks := .later }
def PointAddsCardSaid : Prop := Claim7.holds Tryd.pinned (.plain (OpenSpec.ofChange pointAddsSpec)) pointAddsCard

/-- THE TIED CARD OF 'cressetlaw11.PointMuls'. -/
def pointMulsCard : Claim7 := { stood := { row := pointMulsRow, standIns := [], harness := (true, "7ffcc3b5cef18ba74ea2d109beae9a88dc771220b653303bcd1ac0ce5230fa1f"), looks := false }, kinds := [], alts := [], laidByText := true, laidKinds := [.data], laidTests := true, laidLooks := .later }
def PointMulsCardSaid : Prop := Claim7.holds Tryd.pinned (.plain (OpenSpec.ofChange pointMulsSpec)) pointMulsCard

/-- THE TIED CARD OF 'cressetlaw11.PointLaws'. -/
def pointLawsCard : Claim7 := { stood := { row := pointLawsRow, standIns := [], harness := (true, "7ffcc3b5cef18ba74ea2d109beae9a88dc771220b653303bcd1ac0ce5230fa1f"), looks := false }, kinds := [], alts := [], laidByText := true, laidKinds := [.data], laidTests := true, laidLooks := .later }
def PointLawsCardSaid : Prop := Claim7.holds Tryd.pinned (.plain (OpenSpec.ofChange pointLawsSpec)) pointLawsCard

/-- THE TIED CARD OF 'cressetlaw11.PointTimes'. -/
def pointTimesCard : Claim7 := { stood := { row := pointTimesRow, standIns := [], harness := (true, "7ffcc3b5cef18ba74ea2d109beae9a88dc771220b653303bcd1ac0ce5230fa1f"), looks := false }, kinds := [], alts := [], laidByText := true, laidKinds := [.data], laidTests := true, laidLooks := .later }
def PointTimesCardSaid : Prop := Claim7.holds Tryd.pinned (.plain (OpenSpec.ofChange pointTimesSpec)) pointTimesCard

/-- THE TIED CARD OF 'cressetlaw11.PointNeg'. -/
def pointNegCard : Claim7 := { stood := { row := pointNegRow, standIns := [], harness := (true, "7ffcc3b5cef18ba74ea2d109beae9a88dc771220b653303bcd1ac0ce5230fa1f"), looks := false }, kinds := [], alts := [], laidByText := true, laidKinds := [.data], laidTests := true, laidLooks := .later }
def PointNegCardSaid : Prop := Claim7.holds Tryd.pinned (.plain (OpenSpec.ofChange pointNegSpec)) pointNegCard

/-- THE SECOND FORM's CARD OF 'cressetlaw11.PointReads'. -/
def pointReadsUptoCard : Claim7 := { stood := { row := pointReadsUptoRow, standIns := [], harness := (true, "7ffcc3b5cef18ba74ea2d109beae9a88dc771220b653303bcd1ac0ce5230fa1f"), looks := false }, kinds := [], alts := [], laidByText := true, laidKinds := [.data], laidTests := true, laidLooks := .later }
def PointReadsUptoCardSaid : Prop := Claim7.holds Tryd.pinned (.plain (OpenSpec.upto pointReadsSpec)) pointReadsUptoCard

/-- THE SECOND FORM's CARD OF 'cressetlaw11.PointAdds'. -/
def pointAddsUptoCard : Claim7 := { stood := { row := pointAddsUptoRow, standIns := [], harness := (true, "7ffcc3b5cef18ba74ea2d109beae9a88dc771220b653303bcd1ac0ce5230fa1f"), looks := false }, kinds := [], alts := [], laidByText := true, laidKinds := [.data], laidTests := true, laidLooks := .later }
def PointAddsUptoCardSaid : Prop := Claim7.holds Tryd.pinned (.plain (OpenSpec.upto pointAddsSpec)) pointAddsUptoCard

/-- THE SECOND FORM's CARD OF 'cressetlaw11.PointMuls'. -/
def pointMulsUptoCard : Claim7 := { stood := { row := pointMulsUptoRow, standIns := [], harness := (true, "7ffcc3b5cef18ba74ea2d109beae9a88dc771220b653303bcd1ac0ce5230fa1f"), looks := false }, kinds := [], alts := [], laidByText := true, laidKinds := [.data], laidTests := true, laidLooks := .later }
def PointMulsUptoCardSaid : Prop := Claim7.holds Tryd.pinned (.plain (OpenSpec.upto pointMulsSpec)) pointMulsUptoCard

/-- THE SECOND FORM's CARD OF 'cressetlaw11.PointLaws'. -/
def pointLawsUptoCard : Claim7 := { stood := { row := pointLawsUptoRow, standIns := [], harness := (true, "7ffcc3b5cef18ba74ea2d109beae9a88dc771220b653303bcd1ac0ce5230fa1f"), looks := false }, kinds := [], alts := [], laidByText := true, laidKinds := [.data], laidTests := true, laidLooks := .later }
def PointLawsUptoCardSaid : Prop := Claim7.holds Tryd.pinned (.plain (OpenSpec.upto pointLawsSpec)) pointLawsUptoCard

/-- THE SECOND FORM's CARD OF 'cressetlaw11.PointTimes'. -/
def pointTimesUptoCard : Claim7 := { stood := { row := pointTimesUptoRow, standIns := [], harness := (true, "7ffcc3b5cef18ba74ea2d109beae9a88dc771220b653303bcd1ac0ce5230fa1f"), looks := false }, kinds := [], alts := [], laidByText := true, laidKinds := [.data], laidTests := true, laidLooks := .later }
def PointTimesUptoCardSaid : Prop := Claim7.holds Tryd.pinned (.plain (OpenSpec.upto pointTimesSpec)) pointTimesUptoCard

/-- THE SECOND FORM's CARD OF 'cressetlaw11.PointNeg'. -/
def pointNegUptoCard : Claim7 := { stood := { row := pointNegUptoRow, standIns := [], harness := (true, "7ffcc3b5cef18ba74ea2d109beae9a88dc771220b653303bcd1ac0ce5230fa1f"), looks := false }, kinds := [], alts := [], laidByText := true, laidKinds := [.data], laidTests := true, laidLooks := .later }
def PointNegUptoCardSaid : Prop := Claim7.holds Tryd.pinned (.plain (OpenSpec.upto pointNegSpec)) pointNegUptoCard
end Rows
end Go.Proofs.YtcpdehfmlmmgiaaDoor
