/-
  Worlds ahead of an alloc and behind it.
-/
import Derived.Test.YtpomedfofnceeaaDoorRg
import Derived.Test.YtpomedfofnceeaaDoorBx
namespace Go.Proofs.YtpomedfofnceeaaDoor
open Go Go.RowKit
attribute [local go_sem ↓] Go.wp_at_zero Go.wp_at_succ


def famX (w : World) (z : Obj) (j : Nat) : World := if j % 2 = 0 then w.drewN (j / 2) else (w.alloc z).drewN (j / 2)
theorem famX_cell {w : World} {z : Obj} {b o : Nat} {u : Value} (h : w.cell? ⟨b, o, none⟩ = some u) (j : Nat) : (famX w z j).cell? ⟨b, o, none⟩ = some u := by
  unfold famX
  split
  · exact h
  · exact far6 (below_drewN ((Below.refl _ _).alloc (Nat.le_refl _) _) _) h
theorem famX0 (w : World) (z : Obj) (k : Nat) : ∃ j, w.drewN k = famX w z j := ⟨2 * k, by unfold famX; rw [if_pos (by omega)]; congr 1; omega⟩
theorem famX1 (w : World) (z : Obj) (k : Nat) : ∃ j, (w.alloc z).drewN k = famX w z j := ⟨2 * k + 1, by unfold famX; rw [if_neg (by omega)]; congr 1; omega⟩

end Go.Proofs.YtpomedfofnceeaaDoor
