/-
  DERIVED. GIVEN WITH THE SEED: THE CARDS: each row of YtcokbogicbdoaaaDoorRows.lean that lists a variable, with what it lists TIED to the program's text (the seventh form; the later family's looks); each row that meets fmt, with fmt's text TOLD by the authors' own Lean function (tested against real Go, not proved from fmt's source: count such statements apart). THE CARD IS WHAT COUNTS. Prove the row's statement (the work); the ties are given (YtcokbogicbdoaaaDoorTie.lean); close each card by the builder's one call (the guide's Derived/Test/ToyasCard.lean, 'card_holds'). Laid BY PROGRAM, IN A SANDBOX (cutbox-door.mjs). By AI agents, Wed Nov 11 2026. No macro, syntax, notation, axiom, sorry.
-/
import Derived.Test.YtcokbogicbdoaaaDoorRows
import GoSem.ClaimSeven
namespace Go.Proofs.YtcokbogicbdoaaaDoor
namespace Rows

/-- THE TIED CARD OF 'laws.FnExactPagesBehind'. -/
def fnExactPagesBehindCard : Claim7 := { stood := { row := fnExactPagesBehindRow, standIns := [], harness := (true, "ebc7af4740507e59e6063afb24a5a70b65dee54ae3d3f53ed8e7910d97688d6a"), looks := false }, kinds := [], alts := [], laidByText := true, laidKinds := [.data], laidTests := true, laidLooks := .later }
def FnExactPagesBehindCardSaid : Prop := Claim7.holds Tryd.pinned (.plain (OpenSpec.ofChange fnExactPagesBehindSpec)) fnExactPagesBehindCard

/-- THE TIED CARD OF 'laws.FnExactStoreOK'. -/
def fnExactStoreOKCard : Claim7 := { stood := { row := fnExactStoreOKRow, standIns := [], harness := (true, "ebc7af4740507e59e6063afb24a5a70b65dee54ae3d3f53ed8e7910d97688d6a"), looks := false }, kinds := [], alts := [], laidByText := true, laidKinds := [.data], laidTests := true, laidLooks := .later }
def FnExactStoreOKCardSaid : Prop := Claim7.holds Tryd.pinned (.plain (OpenSpec.ofChange fnExactStoreOKSpec)) fnExactStoreOKCard

/-- THE SECOND FORM's CARD OF 'laws.FnExactPagesBehind'. -/
def fnExactPagesBehindUptoCard : Claim7 := { stood := { row := fnExactPagesBehindUptoRow, standIns := [], harness := (true, "ebc7af4740507e59e6063afb24a5a70b65dee54ae3d3f53ed8e7910d97688d6a"), looks := false }, kinds := [], alts := [], laidByText := true, laidKinds := [.data], laidTests := true, laidLooks := .later }
def FnExactPagesBehindUptoCardSaid : Prop := Claim7.holds Tryd.pinned (.plain (OpenSpec.upto fnExactPagesBehindSpec)) fnExactPagesBehindUptoCard

/-- THE SECOND FORM's CARD OF 'laws.FnExactStoreOK'. -/
def fnExactStoreOKUptoCard : Claim7 := { stood := { row := fnExactStoreOKUptoRow, standIns := [], harness := (true, "ebc7af4740507e59e6063afb24a5a70b65dee54ae3d3f53ed8e7910d97688d6a"), looks := false }, kinds := [], alts := [], laidByText := true, laidKinds := [.data], laidTests := true, laidLooks := .later }
def FnExactStoreOKUptoCardSaid : Prop := Claim7.holds Tryd.pinned (.plain (OpenSpec.upto fnExactStoreOKSpec)) fnExactStoreOKUptoCard
end Rows
end Go.Proofs.YtcokbogicbdoaaaDoor
