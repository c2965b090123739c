/- Doubling adds: reckoned. -/
import Derived.Test.YtoejkiblampecaaDoorAesSpec
namespace Go.Proofs.YtoejkiblampecaaDoor
open Go.RowKit
set_option maxRecDepth 100000
theorem dbl_lin_all : (List.range 256).all (fun a => (List.range 256).all fun b => dbl1 (a ^^^ b) == (dbl1 a ^^^ dbl1 b)) = true := by decide +kernel
theorem dbl_lin (a b : Nat) (ha : a < 256) (hb : b < 256) : dbl1 (a ^^^ b) = dbl1 a ^^^ dbl1 b := by
  simpa using List.all_eq_true.1 (List.all_eq_true.1 dbl_lin_all a (List.mem_range.2 ha)) b (List.mem_range.2 hb)
end Go.Proofs.YtoejkiblampecaaDoor
