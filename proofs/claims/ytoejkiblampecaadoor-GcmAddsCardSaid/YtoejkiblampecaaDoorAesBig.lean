/- The reference's table, byte by byte: reckoned. -/
import Derived.Test.YtoejkiblampecaaDoorAesSpec
namespace Go.Proofs.YtoejkiblampecaaDoor
open Go.RowKit
set_option maxRecDepth 100000
theorem tab_full : tabS 255 = tabL := by decide +kernel
theorem p3_all : (List.range 255).all (fun k => decide (p3 k < 256)) = true := by decide +kernel
theorem iv_all : (List.range 256).all (fun b => stN (ivS b 255) == sbT b) = true := by decide +kernel
end Go.Proofs.YtoejkiblampecaaDoor
