/-
  Texts of numbers.
-/
import Derived.Test.YtkgfbnbgmgakoaaDoorBx
import Derived.Test.YtkgfbnbgmgakoaaDoorRs
namespace Go.Proofs.YtkgfbnbgmgakoaaDoor
open Go Go.RowKit
attribute [local go_sem ↓] Go.wp_at_zero Go.wp_at_succ


end Go.Proofs.YtkgfbnbgmgakoaaDoor
