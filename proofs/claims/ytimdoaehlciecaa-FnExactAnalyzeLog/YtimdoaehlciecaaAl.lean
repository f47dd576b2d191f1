/-
  AnalyzeLog: the law, whole.
-/
import Derived.Test.YtimdoaehlciecaaAh
import Derived.Test.YtimdoaehlciecaaAk
namespace Go.Proofs.Ytimdoaehlciecaa
open Go Go.RowKit

theorem law_FnExactAnalyzeLog (a : Option Addr) (n cap : Nat) (L : List DR) (w : World) (hr : RdQ w a n L) (hm : n ≤ maxLen) (hs : ∀ v ∈ L, v.b.size ≤ maxLen ∧ v.a.size ≤ maxLen) :
    Calls Try.prog 4 #[.slice a n cap] w fun e w' => e = .returned (.bool true) ∧ Below w.heap.size w w' :=
  law_of c_specAn a n cap L w hr hm hs

end Go.Proofs.Ytimdoaehlciecaa
