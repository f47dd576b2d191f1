/-
  Texts of numbers.
-/
import Derived.Test.YtgdlgnmfenjiaaaDoorBx
import Derived.Test.YtgdlgnmfenjiaaaDoorRs
namespace Go.Proofs.YtgdlgnmfenjiaaaDoor
open Go Go.RowKit
attribute [local go_sem ↓] Go.wp_at_zero Go.wp_at_succ


end Go.Proofs.YtgdlgnmfenjiaaaDoor
