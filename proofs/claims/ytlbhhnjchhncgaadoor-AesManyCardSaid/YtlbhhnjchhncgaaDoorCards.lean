/-
  DERIVED. GIVEN WITH THE SEED: THE CARDS: each row of YtlbhhnjchhncgaaDoorRows.lean that lists a variable, with what it lists TIED to the program's text (the seventh form; the later family's looks); each row that meets fmt, with fmt's text TOLD by the authors' own Lean function (tested against real Go, not proved from fmt's source: count such statements apart). THE CARD IS WHAT COUNTS. Prove the row's statement (the work); the ties are given (YtlbhhnjchhncgaaDoorTie.lean); close each card by the builder's one call (the guide's Derived/Test/ToyasCard.lean, 'card_holds'). Laid BY PROGRAM, IN A SANDBOX (cutbox-door.mjs). By AI agents, Wed Nov 11 2026. No macro, syntax, notation, axiom, sorry.
-/
import Derived.Test.YtlbhhnjchhncgaaDoorRows
import GoSem.ClaimSeven
namespace Go.Proofs.YtlbhhnjchhncgaaDoor
namespace Rows

/-- THE TIED CARD OF 'cressetlaw05.AesBlocks'. -/
def aesBlocksCard : Claim7 := { stood := { row := aesBlocksRow, standIns := [], harness := (true, "3870ea90e8ba3b78e694f39e2f7723a2c9cb9b13981a67c1f7b5d1b71bab7926"), looks := false }, kinds := [], alts := [], laidByText := true, laidKinds := [.data], laidTests := true, laidLooks := .later }
def AesBlocksCardSaid : Prop := Claim7.holds Tryd.pinned (.plain (OpenSpec.ofChange aesBlocksSpec)) aesBlocksCard

/-- THE TIED CARD OF 'cressetlaw05.AesKeys'. -/
def aesKeysCard : Claim7 := { stood := { row := aesKeysRow, standIns := [], harness := (true, "3870ea90e8ba3b78e694f39e2f7723a2c9cb9b13981a67c1f7b5d1b71bab7926"), looks := false }, kinds := [], alts := [], laidByText := true, laidKinds := [.data], laidTests := true, laidLooks := .later }
def AesKeysCardSaid : Prop := Claim7.holds Tryd.pinned (.plain (OpenSpec.ofChange aesKeysSpec)) aesKeysCard

/-- THE TIED CARD OF 'cressetlaw05.AesSwaps'. -/
def aesSwapsCard : Claim7 := { stood := { row := aesSwapsRow, standIns := [], harness := (true, "3870ea90e8ba3b78e694f39e2f7723a2c9cb9b13981a67c1f7b5d1b71bab7926"), looks := false }, kinds := [], alts := [], laidByText := true, laidKinds := [.data], laidTests := true, laidLooks := .later }
def AesSwapsCardSaid : Prop := Claim7.holds Tryd.pinned (.plain (OpenSpec.ofChange aesSwapsSpec)) aesSwapsCard

/-- THE TIED CARD OF 'cressetlaw05.AesMany'. -/
def aesManyCard : Claim7 := { stood := { row := aesManyRow, standIns := [], harness := (true, "3870ea90e8ba3b78e694f39e2f7723a2c9cb9b13981a67c1f7b5d1b71bab7926"), looks := false }, kinds := [], alts := [], laidByText := true, laidKinds := [.data], laidTests := true, laidLooks := .later }
def AesManyCardSaid : Prop := Claim7.holds Tryd.pinned (.plain (OpenSpec.ofChange aesManySpec)) aesManyCard

/-- THE TIED CARD OF 'cressetlaw05.AesApart'. -/
def aesApartCard : Claim7 := { stood := { row := aesApartRow, standIns := [], harness := (true, "3870ea90e8ba3b78e694f39e2f7723a2c9cb9b13981a67c1f7b5d1b71bab7926"), looks := false }, kinds := [], alts := [], laidByText := true, laidKinds := [.data], laidTests := true, laidLooks := .later }
def AesApartCardSaid : Prop := Claim7.holds Tryd.pinned (.plain (OpenSpec.ofChange aesApartSpec)) aesApartCard

/-- THE SECOND FORM's CARD OF 'cressetlaw05.AesBlocks'. -/
def aesBlocksUptoCard : Claim7 := { stood := { row := aesBlocksUptoRow, standIns := [], harness := (true, "3870ea90e8ba3b78e694f39e2f7723a2c9cb9b13981a67c1f7b5d1b71bab7926"), looks := false }, kinds := [], alts := [], laidByText := true, laidKinds := [.data], laidTests := true, laidLooks := .later }
def AesBlocksUptoCardSaid : Prop := Claim7.holds Tryd.pinned (.plain (OpenSpec.upto aesBlocksSpec)) aesBlocksUptoCard

/-- THE SECOND FORM's CARD OF 'cressetlaw05.AesKeys'. -/
def aesKeysUptoCard : Claim7 := { stood := { row := aesKeysUptoRow, standIns := [], harness := (true, "3870ea90e8ba3b78e694f39e2f7723a2c9cb9b13981a67c1f7b5d1b71bab7926"), looks := false }, kinds := [], alts := [], laidByText := true, laidKinds := [.data], laidTests := true, laidLooks := .later }
def AesKeysUptoCardSaid : Prop := Claim7.holds Tryd.pinned (.plain (OpenSpec.upto aesKeysSpec)) aesKeysUptoCard

/-- THE SECOND FORM's CARD OF 'cressetlaw05.AesSwaps'. -/
def aesSwapsUptoCard : Claim7 := { stood := { row := aesSwapsUptoRow, standIns := [], harness := (true, "3870ea90e8ba3b78e694f39e2f7723a2c9cb9b13981a67c1f7b5d1b71bab7926"), looks := false }, kinds := [], alts := [], laidByText := true, laidKinds := [.data], laidTests := true, laidLooks := .later }
def AesSwapsUptoCardSaid : Prop := Claim7.holds Tryd.pinned (.plain (OpenSpec.upto aesSwapsSpec)) aesSwapsUptoCard

/-- THE SECOND FORM's CARD OF 'cressetlaw05.AesMany'. -/
def aesManyUptoCard : Claim7 := { stood := { row := aesManyUptoRow, standIns := [], harness := (true, "3870ea90e8ba3b78e694f39e2f7723a2c9cb9b13981a67c1f7b5d1b71bab7926"), looks := false }, kinds := [], alts := [], laidByText := true, laidKinds := [.data], laidTests := true, laidLooks := .later }
def AesManyUptoCardSaid : Prop := Claim7.holds Tryd.pinned (.plain (OpenSpec.upto aesManySpec)) aesManyUptoCard

/-- THE SECOND FORM's CARD OF 'cressetlaw05.AesApart'. -/
def aesApartUptoCard : Claim7 := { stood := { row := aesApartUptoRow, standIns := [], harness := (true, "3870ea90e8ba3b78e694f39e2f7723a2c9cb9b13981a67c1f7b5d1b71bab7926"), looks := false }, kinds := [], alts := [], laidByText := true, laidKinds := [.data], laidTests := true, laidLooks := .later }
def AesApartUptoCardSaid : Prop := Claim7.holds Tryd.pinned (.plain (OpenSpec.upto aesApartSpec)) aesApartUptoCard
end Rows
end Go.Proofs.YtlbhhnjchhncgaaDoor
