/-
  DERIVED. GIVEN WITH THE SEED: THE CARDS: each row of YtjjgakkijhjaiaaDoorRows.lean that lists a variable, with what it lists TIED to the program's text (the seventh form; the later family's looks); each row that meets fmt, with fmt's text TOLD by the authors' own Lean function (tested against real Go, not proved from fmt's source: count such statements apart). THE CARD IS WHAT COUNTS. Prove the row's statement (the work); the ties are given (YtjjgakkijhjaiaaDoorTie.lean); close each card by the builder's one call (the guide's Derived/Test/ToyasCard.lean, 'card_holds'). Laid BY PROGRAM, IN A SANDBOX (cutbox-door.mjs). By AI agents, Wed Nov 11 2026. No macro, syntax, notation, axiom, sorry.
-/
import Derived.Test.YtjjgakkijhjaiaaDoorRows
import GoSem.ClaimSeven
namespace Go.Proofs.YtjjgakkijhjaiaaDoor
namespace Rows

/-- THE TIED CARD OF 'cressetlaw17.KeysSecrets'. -/
def keysSecretsCard : Claim7 := { stood := { row := keysSecretsRow, standIns := [], harness := (true, "2271cc2a7ddc5f1c925e58b44e94bf135b575f001bcbeff62c26d7a54d9c122c"), looks := false }, kinds := [], alts := [], laidByText := true, laidKinds := [.data, .data], laidTests := true, laidLooks := .later }
def KeysSecretsCardSaid : Prop := Claim7.holds Tryd.pinned (.plain (OpenSpec.ofChange keysSecretsSpec)) keysSecretsCard

/-- THE TIED CARD OF 'cressetlaw17.KeysSteps'. -/
def keysStepsCard : Claim7 := { stood := { row := keysStepsRow, standIns := [], harness := (true, "2271cc2a7ddc5f1c925e58b44e94bf135b575f001bcbeff62c26d7a54d9c122c"), looks := false }, kinds := [], alts := [], laidByText := true, laidKinds := [.data, .data], laidTests := true, laidLooks := .later }
def KeysStepsCardSaid : Prop := Claim7.holds Tryd.pinned (.plain (OpenSpec.ofChange keysStepsSpec)) keysStepsCard

/-- THE TIED CARD OF 'cressetlaw17.KeysTraffic'. -/
def keysTrafficCard : Claim7 := { stood := { row := keysTrafficRow, standIns := [], harness := (true, "2271cc2a7ddc5f1c925e58b44e94bf135b575f001bcbeff62c26d7a54d9c122c"), looks := false }, kinds := [], alts := [], laidByText := true, laidKinds := [.data, .data], laidTests := true, laidLooks := .later }
def KeysTrafficCardSaid : Prop := Claim7.holds Tryd.pinned (.plain (OpenSpec.ofChange keysTrafficSpec)) keysTrafficCard

/-- THE TIED CARD OF 'cressetlaw17.KeysTags'. -/
def keysTagsCard : Claim7 := { stood := { row := keysTagsRow, standIns := [], harness := (true, "2271cc2a7ddc5f1c925e58b44e94bf135b575f001bcbeff62c26d7a54d9c122c"), looks := false }, kinds := [], alts := [], laidByText := true, laidKinds := [.data, .data], laidTests := true, laidLooks := .later }
def KeysTagsCardSaid : Prop := Claim7.holds Tryd.pinned (.plain (OpenSpec.ofChange keysTagsSpec)) keysTagsCard

/-- THE TIED CARD OF 'cressetlaw17.KeysSizes'. -/
def keysSizesCard : Claim7 := { stood := { row := keysSizesRow, standIns := [], harness := (true, "2271cc2a7ddc5f1c925e58b44e94bf135b575f001bcbeff62c26d7a54d9c122c"), looks := false }, kinds := [], alts := [], laidByText := true, laidKinds := [.data, .data], laidTests := true, laidLooks := .later }
def KeysSizesCardSaid : Prop := Claim7.holds Tryd.pinned (.plain (OpenSpec.ofChange keysSizesSpec)) keysSizesCard

/-- THE TIED CARD OF 'cressetlaw17.KeysNext'. -/
def keysNextCard : Claim7 := { stood := { row := keysNextRow, standIns := [], harness := (true, "2271cc2a7ddc5f1c925e58b44e94bf135b575f001bcbeff62c26d7a54d9c122c"), looks := false }, kinds := [], alts := [], laidByText := true, laidKinds := [.data, .data], laidTests := true, laidLooks := .later }
def KeysNextCardSaid : Prop := Claim7.holds Tryd.pinned (.plain (OpenSpec.ofChange keysNextSpec)) keysNextCard

/-- THE TIED CARD OF 'cressetlaw17.KeysMaster'. -/
def keysMasterCard : Claim7 := { stood := { row := keysMasterRow, standIns := [], harness := (true, "2271cc2a7ddc5f1c925e58b44e94bf135b575f001bcbeff62c26d7a54d9c122c"), looks := false }, kinds := [], alts := [], laidByText := true, laidKinds := [.data, .data], laidTests := true, laidLooks := .later }
def KeysMasterCardSaid : Prop := Claim7.holds Tryd.pinned (.plain (OpenSpec.ofChange keysMasterSpec)) keysMasterCard

/-- THE TIED CARD OF 'cressetlaw17.KeysSigned'. -/
def keysSignedCard : Claim7 := { stood := { row := keysSignedRow, standIns := [], harness := (true, "2271cc2a7ddc5f1c925e58b44e94bf135b575f001bcbeff62c26d7a54d9c122c"), looks := false }, kinds := [], alts := [], laidByText := true, laidKinds := [.data, .data], laidTests := true, laidLooks := .later }
def KeysSignedCardSaid : Prop := Claim7.holds Tryd.pinned (.plain (OpenSpec.ofChange keysSignedSpec)) keysSignedCard

/-- THE SECOND FORM's CARD OF 'cressetlaw17.KeysSecrets'. -/
def keysSecretsUptoCard : Claim7 := { stood := { row := keysSecretsUptoRow, standIns := [], harness := (true, "2271cc2a7ddc5f1c925e58b44e94bf135b575f001bcbeff62c26d7a54d9c122c"), looks := false }, kinds := [], alts := [], laidByText := true, laidKinds := [.data, .data], laidTests := true, laidLooks := .later }
def KeysSecretsUptoCardSaid : Prop := Claim7.holds Tryd.pinned (.plain (OpenSpec.upto keysSecretsSpec)) keysSecretsUptoCard

/-- THE SECOND FORM's CARD OF 'cressetlaw17.KeysSteps'. -/
def keysStepsUptoCard : Claim7 := { stood := { row := keysStepsUptoRow, standIns := [], harness := (true, "2271cc2a7ddc5f1c925e58b44e94bf135b575f001bcbeff62c26d7a54d9c122c"), looks := false }, kinds := [], alts := [], laidByText := true, laidKinds := [.data, .data], laidTests := true, laidLooks := .later }
def KeysStepsUptoCardSaid : Prop := Claim7.holds Tryd.pinned (.plain (OpenSpec.upto keysStepsSpec)) keysStepsUptoCard

/-- THE SECOND FORM's CARD OF 'cressetlaw17.KeysTraffic'. -/
def keysTrafficUptoCard : Claim7 := { stood := { row := keysTrafficUptoRow, standIns := [], harness := (true, "2271cc2a7ddc5f1c925e58b44e94bf135b575f001bcbeff62c26d7a54d9c122c"), looks := false }, kinds := [], alts := [], laidByText := true, laidKinds := [.data, .data], laidTests := true, laidLooks := .later }
def KeysTrafficUptoCardSaid : Prop := Claim7.holds Tryd.pinned (.plain (OpenSpec.upto keysTrafficSpec)) keysTrafficUptoCard

/-- THE SECOND FORM's CARD OF 'cressetlaw17.KeysTags'. -/
def keysTagsUptoCard : Claim7 := { stood := { row := keysTagsUptoRow, standIns := [], harness := (true, "2271cc2a7ddc5f1c925e58b44e94bf135b575f001bcbeff62c26d7a54d9c122c"), looks := false }, kinds := [], alts := [], laidByText := true, laidKinds := [.data, .data], laidTests := true, laidLooks := .later }
def KeysTagsUptoCardSaid : Prop := Claim7.holds Tryd.pinned (.plain (OpenSpec.upto keysTagsSpec)) keysTagsUptoCard

/-- THE SECOND FORM's CARD OF 'cressetlaw17.KeysSizes'. -/
def keysSizesUptoCard : Claim7 := { stood := { row := keysSizesUptoRow, standIns := [], harness := (true, "2271cc2a7ddc5f1c925e58b44e94bf135b575f001bcbeff62c26d7a54d9c122c"), looks := false }, kinds := [], alts := [], laidByText := true, laidKinds := [.data, .data], laidTests := true, laidLooks := .later }
def KeysSizesUptoCardSaid : Prop := Claim7.holds Tryd.pinned (.plain (OpenSpec.upto keysSizesSpec)) keysSizesUptoCard

/-- THE SECOND FORM's CARD OF 'cressetlaw17.KeysNext'. -/
def keysNextUptoCard : Claim7 := { stood := { row := keysNextUptoRow, standIns := [], harness := (true, "2271cc2a7ddc5f1c925e58b44e94bf135b575f001bcbeff62c26d7a54d9c122c"), looks := false }, kinds := [], alts := [], laidByText := true, laidKinds := [.data, .data], laidTests := true, laidLooks := .later }
def KeysNextUptoCardSaid : Prop := Claim7.holds Tryd.pinned (.plain (OpenSpec.upto keysNextSpec)) keysNextUptoCard

/-- THE SECOND FORM's CARD OF 'cressetlaw17.KeysMaster'. -/
def keysMasterUptoCard : Claim7 := { stood := { row := keysMasterUptoRow, standIns := [], harness := (true, "2271cc2a7ddc5f1c925e58b44e94bf135b575f001bcbeff62c26d7a54d9c122c"), looks := false }, kinds := [], alts := [], laidByText := true, laidKinds := [.data, .data], laidTests := true, laidLooks := .later }
def KeysMasterUptoCardSaid : Prop := Claim7.holds Tryd.pinned (.plain (OpenSpec.upto keysMasterSpec)) keysMasterUptoCard

/-- THE SECOND FORM's CARD OF 'cressetlaw17.KeysSigned'. -/
def keysSignedUptoCard : Claim7 := { stood := { row := keysSignedUptoRow, standIns := [], harness := (true, "2271cc2a7ddc5f1c925e58b44e94bf135b575f001bcbeff62c26d7a54d9c122c"), looks := false }, kinds := [], alts := [], laidByText := true, laidKinds := [.data, .data], laidTests := true, laidLooks := .later }
def KeysSignedUptoCardSaid : Prop := Claim7.holds Tryd.pinned (.plain (OpenSpec.upto keysSignedSpec)) keysSignedUptoCard
end Rows
end Go.Proofs.YtjjgakkijhjaiaaDoor
