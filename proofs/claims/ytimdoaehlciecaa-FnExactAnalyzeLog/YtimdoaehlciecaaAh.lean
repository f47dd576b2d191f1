/-
  l08Analyze of the specification, whole.
-/
import Derived.Test.YtimdoaehlciecaaAhB
import Derived.Test.YtimdoaehlciecaaAhC
import Derived.Test.YtimdoaehlciecaaAhD
import Derived.Test.YtimdoaehlciecaaAhE
namespace Go.Proofs.Ytimdoaehlciecaa
open Go Go.RowKit
attribute [local go_sem ↓] Go.wp_at_zero Go.wp_at_succ

set_option linter.unusedVariables false
set_option linter.unusedSimpArgs false
theorem c_specAn_p1 : c_specAn_1.2.1 := c_specAn_p1_1.2.2.2.2.2.2.2 ⟨c_specAn_p1_p0⟩ ⟨c_specAn_p1_p1⟩ ⟨c_specAn_p1_p2⟩ ⟨c_specAn_p1_p3⟩ ⟨c_specAn_p1_p4⟩ ⟨c_specAn_p1_p5⟩ ⟨c_specAn_p1_p6⟩ 
theorem c_specAn (a : Option Addr) (n cap : Nat) (L : List DR) (w : World) (hr : RdQ w a n L) (hn : n ≤ 60) (hs : ∀ v ∈ L, v.b.size ≤ 1048576 ∧ v.a.size ≤ 1048576) (H : ∀ j, j < L.length → okLR (L.getD j zeroR) = true ∧ (L.getD j zeroR).l = (j : Int) + 1) : Calls Try.prog 28 #[.slice a n cap] w fun e w' => AnsTo w (anR L) e w' ∧ Below w.heap.size w w' := c_specAn_1.2.2 ⟨c_specAn_p0⟩ ⟨c_specAn_p1⟩ a n cap L w hr hn hs H

end Go.Proofs.Ytimdoaehlciecaa
