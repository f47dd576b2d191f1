/-
  Texts of numbers.
-/
import Derived.Test.YtbjefhdacfijpaaDoorBx
import Derived.Test.YtbjefhdacfijpaaDoorRs
namespace Go.Proofs.YtbjefhdacfijpaaDoor
open Go Go.RowKit
attribute [local go_sem ↓] Go.wp_at_zero Go.wp_at_succ


end Go.Proofs.YtbjefhdacfijpaaDoor
