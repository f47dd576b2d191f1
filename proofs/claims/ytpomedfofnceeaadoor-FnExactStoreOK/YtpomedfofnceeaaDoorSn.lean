/-
  Texts of numbers.
-/
import Derived.Test.YtpomedfofnceeaaDoorBx
import Derived.Test.YtpomedfofnceeaaDoorRs
namespace Go.Proofs.YtpomedfofnceeaaDoor
open Go Go.RowKit
attribute [local go_sem ↓] Go.wp_at_zero Go.wp_at_succ


end Go.Proofs.YtpomedfofnceeaaDoor
