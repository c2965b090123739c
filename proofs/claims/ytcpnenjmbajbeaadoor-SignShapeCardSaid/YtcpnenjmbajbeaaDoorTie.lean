/-
  DERIVED. GIVEN WITH THE SEED: THE PROGRAM's TIES (one call each: nine closed facts by the kernel) AND EACH ROW's TIE, after the 31st guide's Derived/Test/Toyas{Tie, Card}.lean. No idea stands in it: it is a product of the set-up. Laid BY PROGRAM, IN A SANDBOX (cutbox-door.mjs). By AI agents, Wed Nov 11 2026. No macro, syntax, notation, axiom, sorry.
-/
import Derived.Test.YtcpnenjmbajbeaaDoorRows
import Derived.LaidByTextLater
import Derived.SevenTiedAt
import Derived.LaidSub
import Derived.LaidOnce
namespace Go.Proofs.YtcpnenjmbajbeaaDoor
open Go
set_option maxRecDepth 100000
theorem seatTie1 : Tryd.prog.laidByTextLater [("cresset/field.prime", Rows.laid_cresset_field_prime), ("cresset/scalar.order", Rows.laid_cresset_scalar_order), ("cresset/sha.initialValues", Rows.laid_cresset_sha_initialValues), ("cresset/sha.roundConstants", Rows.laid_cresset_sha_roundConstants)] [.data, .wider, .data, .data] true :=
  Program.laidByTextLater_by_one 29 8 81 (by kernel_rfl) (by kernel_rfl) (by kernel_rfl) (by kernel_rfl) (by kernel_rfl) (by kernel_rfl) (fun _ _ => by kernel_rfl)
theorem noOwnUnsafe : Tryd.pinned.checked.prog.headLifts.contains "ownunsafe" = false := by kernel_rfl
theorem tie : Tryd.prog.laidByTextLater [("cresset/field.prime", Rows.laid_cresset_field_prime), ("cresset/scalar.order", Rows.laid_cresset_scalar_order), ("cresset/sha.initialValues", Rows.laid_cresset_sha_initialValues), ("cresset/sha.roundConstants", Rows.laid_cresset_sha_roundConstants)] [.data, .wider, .data, .data] true :=
  Program.laidByTextLater.sub seatTie1 ["cresset/field.prime", "cresset/scalar.order", "cresset/sha.initialValues", "cresset/sha.roundConstants"] (by kernel_rfl) (by kernel_rfl)
theorem signShape_row_tie : Rows.signShapeRow.laidByTextAt .later Tryd.pinned [.data, .wider, .data, .data] true :=
  OpenClaim.laidByTextAt_later rfl rfl tie noOwnUnsafe
theorem signShapeUpto_row_tie : Rows.signShapeUptoRow.laidByTextAt .later Tryd.pinned [.data, .wider, .data, .data] true :=
  OpenClaim.laidByTextAt_later rfl rfl tie noOwnUnsafe
end Go.Proofs.YtcpnenjmbajbeaaDoor
