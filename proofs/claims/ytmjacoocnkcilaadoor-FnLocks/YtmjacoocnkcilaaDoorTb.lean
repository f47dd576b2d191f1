/-
  What the listed tables of the seat hold.
-/
import Derived.Test.YtmjacoocnkcilaaDoorKit
import Derived.Test.YtmjacoocnkcilaaDoorLb
import Derived.Test.YtmjacoocnkcilaaDoorCards
import Derived.Test.YtmjacoocnkcilaaDoorTie
import Derived.WalkKit
import Derived.ShutString
import Derived.OpenShut
namespace Go.Proofs.YtmjacoocnkcilaaDoor
open Go Go.RowKit
attribute [local go_sem ↓] Go.wp_at_zero Go.wp_at_succ

open Go.ChangeShapes Go.WideShapes Go.ChangeAt
theorem gVar : Tryd.prog.globalNamed "loop.example/g00332/impl.fitting" = some 0 := by kernel_rfl
theorem gType : (Tryd.prog.globals[0]?).map (·.type) = some 92 := by kernel_rfl
theorem fit_of {W : World} (t : Lib.TabIs Tryd.prog W "loop.example/g00332/impl.fitting" .u8 [0, 14, 6, 10, 0]) : FitH W :=
  ⟨t.cell gVar 0 (by decide), t.cell gVar 1 (by decide), t.cell gVar 2 (by decide), t.cell gVar 3 (by decide), t.cell gVar 4 (by decide)⟩

end Go.Proofs.YtmjacoocnkcilaaDoor
