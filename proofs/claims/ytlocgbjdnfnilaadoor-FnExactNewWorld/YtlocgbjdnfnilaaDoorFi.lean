/-
  The walk of the program's FieldsBytes.
-/
import Derived.Test.YtlocgbjdnfnilaaDoorFb
namespace Go.Proofs.YtlocgbjdnfnilaaDoor
open Go Go.RowKit

end Go.Proofs.YtlocgbjdnfnilaaDoor
