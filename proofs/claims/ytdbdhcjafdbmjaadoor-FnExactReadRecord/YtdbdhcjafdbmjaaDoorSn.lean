/-
  Texts of numbers.
-/
import Derived.Test.YtdbdhcjafdbmjaaDoorBx
import Derived.Test.YtdbdhcjafdbmjaaDoorRs
namespace Go.Proofs.YtdbdhcjafdbmjaaDoor
open Go Go.RowKit
attribute [local go_sem ↓] Go.wp_at_zero Go.wp_at_succ


end Go.Proofs.YtdbdhcjafdbmjaaDoor
