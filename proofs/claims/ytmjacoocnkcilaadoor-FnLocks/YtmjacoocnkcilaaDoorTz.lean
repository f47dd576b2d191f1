/-
  What both listed tables hold.
-/
import Derived.Test.YtmjacoocnkcilaaDoorTb
import Derived.Test.YtmjacoocnkcilaaDoorLga
import Derived.WalkKit
import Derived.OpenShut
namespace Go.Proofs.YtmjacoocnkcilaaDoor
open Go Go.RowKit
attribute [local go_sem ↓] Go.wp_at_zero Go.wp_at_succ

open Go.ChangeShapes Go.WideShapes Go.ChangeAt
theorem zVar : Tryd.prog.globalNamed "math/bits.deBruijn64tab" = some 1 := by kernel_rfl
theorem zType : (Tryd.prog.globals[1]?).map (·.type) = some 118 := by kernel_rfl
theorem tz_of {W : World} (t : Lib.TabIs Tryd.prog W "math/bits.deBruijn64tab" .u8 (dbL.map fun n : Nat => (n : Int))) : TabZ W := by
  intro i hi
  have hl : dbL.length = 64 := rfl
  have := t.cell zVar i (by rw [List.length_map]; omega)
  rw [this, List.getD_eq_getElem?_getD, List.getElem?_map, List.getElem?_eq_getElem (show i < dbL.length by omega), List.getD_eq_getElem?_getD, List.getElem?_eq_getElem (show i < dbL.length by omega)]
  rfl

end Go.Proofs.YtmjacoocnkcilaaDoor
