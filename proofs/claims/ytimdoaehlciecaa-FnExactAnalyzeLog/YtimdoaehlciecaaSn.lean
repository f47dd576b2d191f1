/-
  Texts of numbers.
-/
import Derived.Test.YtimdoaehlciecaaBx
import Derived.Test.YtimdoaehlciecaaRs
namespace Go.Proofs.Ytimdoaehlciecaa
open Go Go.RowKit
attribute [local go_sem ↓] Go.wp_at_zero Go.wp_at_succ


end Go.Proofs.Ytimdoaehlciecaa
